/- The walk of grid.Lines: a right grid. -/
import Derived.Test.YtinhmklpnkikgaaDoorPartF
import Derived.Test.YtinhmklpnkikgaaDoorPartG
import Derived.Lib.QuietBelow
import Derived.BigQuiet
import Derived.Deep.RegionHeld3
namespace Go.Proofs.YtinhmklpnkikgaaDoor
open Go.ChangeShapes Go.WideShapes Go.ChangeAt Go.RowKit
namespace Grd
open Txt (wd)
open Sty (isSt)
set_option maxHeartbeats 8000000 in
set_option maxRecDepth 100000 in
theorem lines_good (n hh b o cx : Nat) (cs : List C) (w : World) (hT : Txt.Tab w) (hC : CellsAt w b o cs) (hok : gridErr n hh cs = 0) (hc : cs.length ≤ cx) (hm : cx ≤ 9223372036854775807) :
    Calls Tryd.prog 31 #[.agg #[.int .i64 (n : Int), .int .i64 (hh : Int), .slice (some ⟨b, o, none⟩) cs.length cx]] w fun e w' => ∃ v, e = .returned (.tuple #[v, .int .i64 0]) ∧ OwnS w' w.heap.size v (linesL n hh cs) ∧ Below w.heap.size w w' := by
  obtain ⟨hsize, hL, hrows⟩ := (gridErr_zero n hh cs).1 hok
  have ⟨p0, p1, p2, p3, p4, p5⟩ := prod_in n hh hsize
  have hne : cs ≠ [] := by
    intro h
    rw [h, List.length_nil] at hL
    have : 0 < n * hh := Nat.mul_pos (by omega) (by omega)
    omega
  have hS : SliceAt w (.slice (some ⟨b, o, none⟩) cs.length cx) cs := .inr ⟨hne, b, o, cx, rfl, hc, hm, hC⟩
  have HIN : Hid (∀ y j, y < hh → j < n → 0 ≤ ((rowAt n cs y).getD j z0).1 ∧ ((rowAt n cs y).getD j z0).1 ≤ 1114111) := fun y j hy hj => cellR_in n hh cs hok y j hy hj
  have HC : Hid (CellsAt w b o cs) := hC
  have HL : Hid (cs.length = n * hh) := hL
  have kk : Below w.heap.size w (w.alloc (.cells #[.int .i64 (n : Int), .int .i64 (hh : Int), .slice (some ⟨b, o, none⟩) cs.length cx] 24)) := (Below.refl _ _).alloc (Nat.le_refl _) _
  have HK' : Hid (Calls Tryd.prog 11 #[.agg #[.int .i64 (n : Int), .int .i64 (hh : Int), .slice (some ⟨b, o, none⟩) cs.length cx]] (w.alloc (.cells #[.int .i64 (n : Int), .int .i64 (hh : Int), .slice (some ⟨b, o, none⟩) cs.length cx] 24)) fun e w' => e = .returned (.int .i64 0) ∧ Below (w.alloc (.cells #[.int .i64 (n : Int), .int .i64 (hh : Int), .slice (some ⟨b, o, none⟩) cs.length cx] 24)).heap.size (w.alloc (.cells #[.int .i64 (n : Int), .int .i64 (hh : Int), .slice (some ⟨b, o, none⟩) cs.length cx] 24)) w') := check_ok n hh _ cs _ (Tab.next hT kk) (hS.below kk) hok
  have hmk := make_strs hh (by omega)
  obtain ⟨A, hA⟩ : ∃ A, A = madeCells #[.string ByteArray.empty] (hh * 1) := ⟨_, rfl⟩
  have hAs : A.size = hh := by rw [hA, size_madeCells]; omega
  rw [← hA] at hmk
  have x0 := heap_alloc_new w (.cells #[.int .i64 (n : Int), .int .i64 (hh : Int), .slice (some ⟨b, o, none⟩) cs.length cx] 24)
  clear hA hT hS hok hC hne hrows hL p0 p1 hsize
  go_enter Tryd.func31, Tryd.ntmps31
  go_wp2_with (go_at_call 11; refine HK'.out.mono ?_; rintro e W1 ⟨rfl, b1⟩; have y0 := carry x0 b1; have ⟨e0, e1, e2, _⟩ := cells3 y0)
  have k1 := kk.trans (b1.mono kk.size)
  have yN : w.heap.size < W1.heap.size := blk_lt y0
  have z0 : (W1.alloc (.cells A 9)).heap[w.heap.size]? = _ := (Below.heap_alloc _ _ _ yN).trans y0
  have zG : (W1.alloc (.cells A 9)).heap[W1.heap.size]? = some (.cells A.toList.toArray 9 (0, 0)) := by simpa using heap_alloc_new W1 (.cells A 9)
  have kX : Below w.heap.size w (W1.alloc (.cells A 9)) := k1.alloc k1.size _
  have hAl : A.toList.length = hh := by simpa using hAs
  generalize (W1.alloc (.cells A 9)) = X at *
  generalize hG : W1.heap.size = G at *
  have HAL : Hid (A.toList.length = hh) := hAl
  clear b1 y0 e0 e1 e2 kk x0 HK' hmk k1 hAs hAl hG
  go_loopg [20] hh (fun q y wr => ∃ (k : Nat) (Ls : List Value), y = .int .i64 (k : Int) ∧ k ≤ hh ∧ hh - k ≤ q ∧ Below w.heap.size w wr ∧ wr.heap[w.heap.size]? = some (.cells #[.int .i64 (n : Int), .int .i64 (hh : Int), .slice (some ⟨b, o, none⟩) cs.length cx] 24 (0, 0)) ∧ wr.heap[G]? = some (.cells Ls.toArray 9 (0, 0)) ∧ Ls.length = hh ∧ ∀ i, i < k → Ls[i]? = some (.string (lineB (rowAt n cs i))))
  case atStart => exact ⟨0, A.toList, rfl, by omega, by omega, kX, z0, zG, HAL.out, fun i hi => by omega⟩
  case round =>
    clear z0 zG kX HAL
    obtain ⟨k, Ls, rfl, hk, hq, kW, v0, vG, hLs, hdone⟩ := hrel
    have HLS : Hid (Ls.length = hh) := hLs
    have HD : Hid (∀ i, i < k → Ls[i]? = some (.string (lineB (rowAt n cs i)))) := hdone
    clear hLs hdone
    by_cases hlt : k < hh
    · have lt1 : ((k : Int) < (hh : Int)) := by omega
      have hrl := row_len n hh cs k HL.out hlt
      obtain ⟨c0, c1, c2, _⟩ := cells3 v0
      have hw0 : Below wr.heap.size wr (wr.alloc (.cells #[.pointer none, .slice none 0 0] 81)) := (Below.refl _ _).alloc (Nat.le_refl _) _
      have HB0 : Hid (Lib.IsBuilderF 81 5 wr.heap.size wr.heap.size (Lib.byteCells []) (wr.alloc (.cells #[.pointer none, .slice none 0 0] 81))) := Lib.IsBuilderF.of (Lib.fresh_isBuilder 81 5 wr)
      have d0 := carry v0 hw0
      obtain ⟨f0, f1, f2, _⟩ := cells3 d0
      have HR : Hid (Calls Tryd.prog 36 #[.agg #[.int .i64 (n : Int), .int .i64 (hh : Int), .slice (some ⟨b, o, none⟩) cs.length cx], .int .i64 (k : Int)] (wr.alloc (.cells #[.pointer none, .slice none 0 0] 81)) fun e w' => e = .returned (.slice (some ⟨b, o + k * n * 4, none⟩) n (cx - k * n)) ∧ Below (wr.alloc (.cells #[.pointer none, .slice none 0 0] 81)).heap.size (wr.alloc (.cells #[.pointer none, .slice none 0 0] 81)) w') := rowOf_any b o cs.length cx n k hh _ (by omega) (row_fits n hh _ k HL.out hlt) hc hm
      have HCR : Hid (∀ W, Below w.heap.size w W → CellsAt W b (o + k * n * 4) (rowAt n cs k)) := fun W kW => (HC.out.below kW).part (k * n) n (by have := row_fits n hh _ k HL.out hlt; rw [Nat.add_mul, Nat.one_mul] at this; omega)
      have HINR : Hid (∀ j, j < n → 0 ≤ ((rowAt n cs k).getD j Grd.z0).1 ∧ ((rowAt n cs k).getD j Grd.z0).1 ≤ 1114111) := fun j hj => HIN.out k j hlt hj
      have HRL : Hid ((rowAt n cs k).length = n) := hrl
      clear hrl
      go_wp2_with (go_at_call 36; refine HR.out.mono ?_; rintro e W5 ⟨rfl, b5⟩)
      have kB : Below wr.heap.size wr W5 := hw0.trans (b5.mono hw0.size)
      have HB1 := builder_below HB0.out b5
      clear HR b5 HB0 f0 f1 f2 d0 hw0 c0 c1 c2
      generalize wr = V at *
      have hNB : w.heap.size ≤ V.heap.size := kW.size
      generalize hB0 : V.heap.size = B0 at *
      go_loopg [27] n (fun q xx wv => ∃ (j : Nat) (acc : List UInt8), xx = .int .i64 (j : Int) ∧ j ≤ n ∧ n - j ≤ q ∧ Below B0 V wv ∧ Lib.IsBuilderF 81 5 B0 B0 (Lib.byteCells acc) wv ∧ acc = rowBytes ((rowAt n cs k).take j) ∧ acc.length ≤ 4 * j)
      case atStart => exact ⟨0, [], rfl, by omega, by omega, kB, HB1, rfl, by simp⟩
      case round =>
        clear kB HB1
        obtain ⟨j, acc, rfl, hj, hq2, hb, hI, hacc, hal⟩ := hrel
        have HACC : Hid (acc = rowBytes ((rowAt n cs k).take j)) := hacc
        clear hacc
        have hBW : B0 ≤ wr.heap.size := by rw [← hB0]; exact hb.size
        have kN : Below w.heap.size w wr := kW.trans (hb.mono hNB)
        by_cases hlt2 : j < n
        · have lt2 : ((j : Int) < (n : Int)) := by omega
          have hrg := range_cell (HCR.out wr kN) j (by rw [HRL.out]; exact hlt2)
          have hin := HINR.out j hlt2
          have HNX : Hid (rowBytes ((rowAt n cs k).take (j + 1)) = rowBytes ((rowAt n cs k).take j) ++ (if ((rowAt n cs k).getD j Grd.z0).1 = 0 then [] else Lib.encodeRune ((rowAt n cs k).getD j Grd.z0).1)) := rowBytes_next _ j (by rw [HRL.out]; exact hlt2)
          rcases hce : (rowAt n cs k).getD j Grd.z0 with ⟨r, f, bk, x⟩
          rw [hce] at hrg hin HNX
          dsimp only at hin HNX
          have HRG : Hid (wr.rangeAt b (o + k * n * 4 + j * 4) (words (r, f, bk, x))) := hrg
          have HI0 : Hid (Lib.IsBuilderF 81 5 B0 B0 (Lib.byteCells acc) wr) := hI
          clear hrg hce hI
          by_cases hr0 : r = 0
          · have ne : (r != 0) = false := by simp [hr0]
            have HN2 : Hid (acc = rowBytes ((rowAt n cs k).take (j + 1))) := by
              unfold Hid
              rw [HNX.out, if_pos hr0, List.append_nil]
              exact HACC.out
            clear HNX HACC hin hr0
            go_wp2_with (first
            | (refine wpList_load_mid rfl 40 (.tmp 29) rfl b (o + k * n * 4 + j * 4) rfl (words (r, f, bk, x)) _ HRG.out Tryd.underlying40 rfl cell4_size ?_)
            | (refine wpList_store_row rfl 40 (.tmp 9) _ rfl wr.heap.size #[.int .i32 r, .int .i64 f, .int .i64 bk, .int .i64 x] rfl rfl _ _ (heap_alloc_new wr _) cell4_size rfl (words_one (r, f, bk, x)) ?_
               have hn0 := setRow_heap _ _ _ #[.int .i32 r, .int .i64 f, .int .i64 bk, .int .i64 x] _ _ (heap_alloc_new wr (.cells #[.int .i32 0, .int .i64 0, .int .i64 0, .int .i64 0] 40))
               have kZ : Below wr.heap.size wr ((wr.alloc (.cells #[.int .i32 0, .int .i64 0, .int .i64 0, .int .i64 0] 40)).setRow wr.heap.size #[.int .i32 r, .int .i64 f, .int .i64 bk, .int .i64 x]) := below_setRow ((Below.refl _ _).alloc (Nat.le_refl _) _) (Nat.le_refl _) _
               generalize ((wr.alloc (.cells #[.int .i32 0, .int .i64 0, .int .i64 0, .int .i64 0] 40)).setRow wr.heap.size #[.int .i32 r, .int .i64 f, .int .i64 bk, .int .i64 x]) = Z at *
               obtain ⟨g0, g1, g2, g3⟩ := cells4 hn0))
            go_roundg (n - (j + 1))
            case measure => omega
            case rel => exact ⟨j + 1, acc, rfl, by omega, by omega, hb.trans (kZ.mono hBW), builder_below HI0.out kZ, HN2.out, by omega⟩
          · have ne : (r != 0) = true := by simpa using hr0
            have HN2 : Hid (acc ++ Lib.encodeRune r = rowBytes ((rowAt n cs k).take (j + 1))) := by
              unfold Hid
              rw [HNX.out, if_neg hr0, ← HACC.out]
            have hl4 := encode_len r
            clear HNX HACC
            go_wp2_with (first
            | (refine wpList_load_mid rfl 40 (.tmp 29) rfl b (o + k * n * 4 + j * 4) rfl (words (r, f, bk, x)) _ HRG.out Tryd.underlying40 rfl cell4_size ?_)
            | (refine wpList_store_row rfl 40 (.tmp 9) _ rfl wr.heap.size #[.int .i32 r, .int .i64 f, .int .i64 bk, .int .i64 x] rfl rfl _ _ (heap_alloc_new wr _) cell4_size rfl (words_one (r, f, bk, x)) ?_
               have hn0 := setRow_heap _ _ _ #[.int .i32 r, .int .i64 f, .int .i64 bk, .int .i64 x] _ _ (heap_alloc_new wr (.cells #[.int .i32 0, .int .i64 0, .int .i64 0, .int .i64 0] 40))
               have kZ : Below wr.heap.size wr ((wr.alloc (.cells #[.int .i32 0, .int .i64 0, .int .i64 0, .int .i64 0] 40)).setRow wr.heap.size #[.int .i32 r, .int .i64 f, .int .i64 bk, .int .i64 x]) := below_setRow ((Below.refl _ _).alloc (Nat.le_refl _) _) (Nat.le_refl _) _
               generalize ((wr.alloc (.cells #[.int .i32 0, .int .i64 0, .int .i64 0, .int .i64 0] 40)).setRow wr.heap.size #[.int .i32 r, .int .i64 f, .int .i64 bk, .int .i64 x]) = Z at *
               obtain ⟨g0, g1, g2, g3⟩ := cells4 hn0)
            | (go_at_call 50; refine (Tryd.Builder_WriteRune_k B0 B0 _ r (by omega) (by omega) _ (builder_below HI0.out kZ) (by rw [Lib.byteCells_length]; omega) (by have := kZ.size; omega)).mono ?_; rintro e W8 ⟨rfl, h8, b8, k8⟩))
            go_roundg (n - (j + 1))
            case measure => omega
            case rel =>
              refine ⟨j + 1, acc ++ Lib.encodeRune r, rfl, by omega, by omega, (hb.trans (kZ.mono hBW)).trans b8, ?_, HN2.out, by rw [List.length_append]; omega⟩
              rw [Lib.byteCells_append, Lib.byteCells_encodeRune]
              exact Or.inr h8
        · have lt2 : ¬ ((j : Int) < (n : Int)) := by omega
          have HE : Hid (acc = rowBytes (rowAt n cs k)) := by
            unfold Hid
            rw [HACC.out, List.take_of_length_le (by rw [HRL.out]; omega)]
          clear HACC
          have hkL : k < Ls.length := by rw [HLS.out]; exact hlt
          have hGB : G < B0 := by rw [← hB0]; exact blk_lt vG
          have hTR : ∀ W, Calls Tryd.prog 51 #[.string ⟨acc.toArray⟩, .string ⟨#[32]⟩] W fun e w' => e = .returned (.string ⟨(Lib.trimRightB acc 32).toArray⟩) ∧ W = w' := fun W => by
            have := Tryd.strings_TrimRight_one ⟨acc.toArray⟩ 32 (by decide) W (by show acc.toArray.size ≤ _; simp; omega)
            exact this.mono fun e w' h => ⟨by simpa using h.1, h.2.symm⟩
          go_wp2_with (first
            | (go_at_call 52; refine (Tryd.Builder_String_any_k B0 B0 acc _ hI hBW).mono ?_; rintro e W7 ⟨rfl, _, b7, _⟩
               have kV := hb.trans b7
               have vG7 : W7.heap[G]? = _ := (kV.block G hGB).trans vG
               have v07 : W7.heap[w.heap.size]? = _ := (kV.block _ (by rw [← hB0]; exact blk_lt v0)).trans v0
               have hce : W7.cell? ⟨G, k, none⟩ = some Ls[k] := by unfold World.cell?; rw [vG7]; simp [hkL]
               have hfz : W7.frozen? ⟨G, k, none⟩ = false := frozen_of vG7 _)
            | (go_at_call 51; refine (hTR _).mono ?_; rintro e W8 ⟨rfl, rfl⟩))
          go_roundg (hh - (k + 1))
          case measure => omega
          case rel =>
            refine ⟨k + 1, Ls.set k (.string ⟨(Lib.trimRightB acc 32).toArray⟩), rfl, by omega, by omega, (kW.trans (kV.mono hNB)).setCell (by dsimp only; omega) _, ?_, ?_, by rw [List.length_set]; exact HLS.out, ?_⟩
            · rw [heap_setCell_other _ _ _ _ (by dsimp only; omega)]; exact v07
            · have := heap_setCell_same W7 G k _ _ (.string ⟨(Lib.trimRightB acc 32).toArray⟩) vG7
              simpa using this
            · intro i hi
              by_cases hik : i = k
              · subst hik
                rw [List.getElem?_set_self hkL, HE.out]; rfl
              · rw [List.getElem?_set_ne (by omega)]; exact HD.out i (by omega)
    · have lt1 : ¬ ((k : Int) < (hh : Int)) := by omega
      have hkh : k = hh := by omega
      go_wp2_with fail
      go_ret2
      refine ⟨_, rfl, ⟨G, 9, ?_, by omega, ?_⟩, kW⟩
      · simp [linesL]
      · rw [vG]
        have : Ls = (linesL n hh cs).map Value.string := by
          refine List.ext_getElem? fun i => ?_
          by_cases hi : i < hh
          · rw [HD.out i (by omega)]; simp [linesL, hi]
          · rw [List.getElem?_eq_none (by rw [HLS.out]; omega), List.getElem?_eq_none (by simp [linesL]; omega)]
        rw [this]
end Grd
end Go.Proofs.YtinhmklpnkikgaaDoor

/- The walk of grid.Fill: a right cell. -/
namespace Go.Proofs.YtinhmklpnkikgaaDoor
open Go.ChangeShapes Go.WideShapes Go.ChangeAt Go.RowKit
namespace Grd
open Txt (wd)
open Sty (isSt)
theorem info_cell4 : (Tryd.prog.info? 40).map (·.size) = some 4 := by kernel_rfl
theorem row_off (n k o : Nat) (hf : o = k * n) : 0 + k * n * 4 = o * 4 := by omega
set_option maxHeartbeats 8000000 in
theorem fill_good (n hh b o cx : Nat) (cs : List C) (rx ry rw rh r f bk x : Int) (w : World) (hT : Txt.Tab w) (hC : CellsAt w b o cs) (hok : gridErr n hh cs = 0) (hc : cs.length ≤ cx) (hm : cx ≤ 9223372036854775807) (hr : wd r = 1) (hs : isSt (f, bk, x) = true) :
    Calls Tryd.prog 18 #[.agg #[.int .i64 (n : Int), .int .i64 (hh : Int), .slice (some ⟨b, o, none⟩) cs.length cx], .agg #[.int .i64 rx, .int .i64 ry, .int .i64 rw, .int .i64 rh], .agg #[.int .i32 r, .int .i64 f, .int .i64 bk, .int .i64 x]] w fun e w' => ∃ v, e = .returned (.tuple #[.agg #[.int .i64 (n : Int), .int .i64 (hh : Int), v], .int .i64 0]) ∧ OwnG w' w.heap.size v (fillG n hh cs rx ry rw rh (r, f, bk, x)) ∧ Below w.heap.size w w' := by
  obtain ⟨hsize, hL, hrows⟩ := (gridErr_zero n hh cs).1 hok
  have ⟨p0, p1, p2, p3, p4, p5⟩ := prod_in n hh hsize
  have hne : cs ≠ [] := by
    intro h
    rw [h, List.length_nil] at hL
    have : 0 < n * hh := Nat.mul_pos (by omega) (by omega)
    omega
  have hl2 : cs.length ≤ 7200 := by
    have : ((n * hh : Nat) : Int) ≤ 7200 := by rw [Int.natCast_mul]; exact p1
    omega
  have hS : SliceAt w (.slice (some ⟨b, o, none⟩) cs.length cx) cs := .inr ⟨hne, b, o, cx, rfl, hc, hm, hC⟩
  obtain ⟨x0, x1, x2, x3, kk, hsz⟩ := alloc4 w (.cells #[.int .i64 (n : Int), .int .i64 (hh : Int), .slice (some ⟨b, o, none⟩) cs.length cx] 24) (.cells #[.int .i64 rx, .int .i64 ry, .int .i64 rw, .int .i64 rh] 36) (.cells #[.int .i32 r, .int .i64 f, .int .i64 bk, .int .i64 x] 40) (.cells #[.int .i64 0, .int .i64 0, .slice none 0 0] 24)
  have HK := check_ok n hh _ cs _ (Tab.next hT kk) (hS.below kk) hok
  have HT : Hid (∀ W, Below w.heap.size w W → Txt.Tab W) := fun W k => Tab.next hT k
  have HTP : Hid (0 < w.heap.size) := hT.pos
  have HC : Hid (CellsAt w b o cs) := hC
  have HL : Hid (cs.length = n * hh) := hL
  have HML : Hid (∀ k, k < hh → ∀ p, Alike (putRow (rowAt n cs k) p fun _ => (r, f, bk, x))) := fun k hk p => (meant_fill (rowAt n cs k) p (r, f, bk, x) (hrows k hk).1 hr hs).alike
  clear hT hS hok hC hne hrows hL p0 p1 hsize
  generalize hW0 : ((((w.alloc (.cells #[.int .i64 (n : Int), .int .i64 (hh : Int), .slice (some ⟨b, o, none⟩) cs.length cx] 24)).alloc (.cells #[.int .i64 rx, .int .i64 ry, .int .i64 rw, .int .i64 rh] 36)).alloc (.cells #[.int .i32 r, .int .i64 f, .int .i64 bk, .int .i64 x] 40)).alloc (.cells #[.int .i64 0, .int .i64 0, .slice none 0 0] 24)) = W0 at x0 x1 x2 x3 kk hsz HK
  have HW0 : Hid (_ = W0) := hW0
  have HK' : Hid (Calls Tryd.prog 11 #[.agg #[.int .i64 (n : Int), .int .i64 (hh : Int), .slice (some ⟨b, o, none⟩) cs.length cx]] W0 fun e w' => e = .returned (.int .i64 0) ∧ Below W0.heap.size W0 w') := HK
  have HR : Hid (wd r = 1) := hr
  have HS : Hid (isSt (f, bk, x) = true) := hs
  clear HK hW0 hr hs
  go_enter Tryd.func18, Tryd.ntmps18
  go_wp2_with (first
    | (go_at_call 11; rw [HW0.out]; refine HK'.out.mono ?_; rintro e W1 ⟨rfl, b1⟩; have k1 := kk.trans (b1.mono kk.size); have y3 := carry x3 b1; have y2 := carry x2 b1; have y1 := carry x1 b1; have y0 := carry x0 b1; have ⟨c0, c1, c2, c3⟩ := cells4 y2)
    | (go_at_call 40; refine (width_to r _ (HT.out _ k1) _ HR.out).mono ?_; rintro e W2 ⟨rfl, b2⟩; have k2 := k1.trans (b2.mono k1.size); have z3 := carry y3 b2; have z2 := carry y2 b2; have z1 := carry y1 b2; have z0 := carry y0 b2; have ⟨d0, d1, d2, d3⟩ := cells4 z2)
    | (go_at_call 41; refine (check_to f bk x _ HS.out _).mono ?_; rintro e W3 ⟨rfl, b3⟩; have k3 := k2.trans (b3.mono k2.size); have u3 := carry z3 b3; have u2 := carry z2 b3; have u1 := carry z1 b3; have u0 := carry z0 b3; have ⟨e0, e1, e2, _⟩ := cells3 u0)
    | (go_at_call 42; refine (copyOf_any n hh b o cx cs _ (HC.out.below k3) (by omega)).mono ?_; rintro e W4 ⟨v4, rfl, ⟨g, cap, rest, t, rfl, hgb, hlc, hcm, hgh⟩, b4⟩; have hW4 := heap_alloc_new W4 (.cells #[.int .i64 0, .int .i64 0, .slice none 0 0] 24))
    | (refine wpList_store_row rfl 24 (.tmp 9) _ rfl W4.heap.size #[.int .i64 (n : Int), .int .i64 (hh : Int), .slice (some ⟨g, 0, none⟩) cs.length cap] rfl rfl _ _ hW4 (by kernel_rfl) rfl (one3v _ _ _ _ _) ?_))
  have hsz1 := b1.size
  have hsz2 := b2.size
  have hsz3 := b3.size
  have hsz4 := b4.size
  have hg4 : g < W4.heap.size := blk_lt hgh
  have hX : ∀ k o', W4.heap[k]? = some o' → ((W4.alloc (.cells #[.int .i64 0, .int .i64 0, .slice none 0 0] 24)).setRow W4.heap.size #[.int .i64 (n : Int), .int .i64 (hh : Int), .slice (some ⟨g, 0, none⟩) cs.length cap]).heap[k]? = some o' := fun k o' hk => by
    have := blk_lt hk
    rw [setRow_other _ _ _ _ (by omega), Below.heap_alloc _ _ _ this, hk]
  have q0 := hX _ _ (carry u0 b4)
  have q1 := hX _ _ (carry u1 b4)
  have q2 := hX _ _ (carry u2 b4)
  have q3 := hX _ _ (carry u3 b4)
  have qg := hX _ _ hgh
  have qM := setRow_heap _ _ _ #[.int .i64 (n : Int), .int .i64 (hh : Int), .slice (some ⟨g, 0, none⟩) cs.length cap] _ _ hW4
  have k4 := k3.trans (b4.mono k3.size)
  have kX := below_setRow (k4.alloc k4.size (.cells #[.int .i64 0, .int .i64 0, .slice none 0 0] 24)) k4.size #[.int .i64 (n : Int), .int .i64 (hh : Int), .slice (some ⟨g, 0, none⟩) cs.length cap]
  generalize ((W4.alloc (.cells #[.int .i64 0, .int .i64 0, .slice none 0 0] 24)).setRow W4.heap.size #[.int .i64 (n : Int), .int .i64 (hh : Int), .slice (some ⟨g, 0, none⟩) cs.length cap]) = X at *
  generalize hM : W4.heap.size = M at *
  have hgN : w.heap.size + 4 ≤ g := by omega
  clear hX hW4 hgh u0 u1 u2 u3 e0 e1 e2 b4 b3 z0 z1 z2 z3 d0 d1 d2 d3 c0 c1 c2 c3 b2 y0 y1 y2 y3 b1 x0 x1 x2 x3 HW0 HK' k1 k2 k3 k4 kk hsz hsz1 hsz2 hsz3 hsz4 hM hgb
  have ⟨e0, e1, e2, _⟩ := cells3 q0
  have ⟨f0, f1, f2, f3⟩ := cells4 q1
  go_quiet (first
    | (go_at_call 44; exact Calls.quiet_of_same (near_same _ _))
    | (go_at_call 43; exact Calls.quiet_of_same (reach_same _ _ _ _)))
  go_wp2_with fail
  generalize hY : X.drewN nq = Y
  have hYh : Y.heap = X.heap := by rw [← hY]; rfl
  have kY : Below w.heap.size w Y := by rw [← hY]; exact kX.trans ⟨rfl, rfl, rfl, Nat.le_refl _, fun _ _ => rfl⟩
  rw [← hYh] at q0 q1 q2 q3 qg qM
  clear hYh hY kX e0 e1 e2 f0 f1 f2 f3
  have ⟨e0, e1, e2, _⟩ := cells3 q0
  have ⟨f0, f1, f2, f3⟩ := cells4 q1
  go_quiet (first
    | (go_at_call 44; exact Calls.quiet_of_same (near_same _ _))
    | (go_at_call 43; exact Calls.quiet_of_same (reach_same _ _ _ _)))
  have HFG : Hid (preF n cs (fillF n hh rx ry rw rh (r, f, bk, x)) hh = fillG n hh cs rx ry rw rh (r, f, bk, x)) := rfl
  have HFL : Hid (KeepLen n (fillF n hh rx ry rw rh (r, f, bk, x))) := fillF_len n hh rx ry rw rh _
  have HF0 : Hid (∀ y : Nat, ((y : Int) < max (nearI ry) 0 ∨ ¬ (y : Int) < min (nearI ry + nearI rh) hh) → ∀ row, fillF n hh rx ry rw rh (r, f, bk, x) y row = row) := fun y hy row => by
    unfold fillF inside
    rw [if_neg (by simp only [decide_eq_true_eq]; omega)]
  have HF1 : Hid (∀ y : Nat, max (nearI ry) 0 ≤ (y : Int) → (y : Int) < min (nearI ry + nearI rh) hh → ∀ row, fillF n hh rx ry rw rh (r, f, bk, x) y row = mendL (putRow row (inside rx rw n) fun _ => (r, f, bk, x))) := fun y h1 h2 row => by
    unfold fillF
    rw [if_pos (by unfold inside; simp only [decide_eq_true_eq]; omega)]
  have HP : Hid (∀ u : Nat, inside rx rw n u = decide (max (nearI rx) 0 ≤ (u : Int) ∧ (u : Int) < min (nearI rx + nearI rw) n)) := fun u => rfl
  have hRt : min (nearI rx + nearI rw) (n : Int) ≤ n := by omega
  have hBt : min (nearI ry + nearI rh) (hh : Int) ≤ hh := by omega
  generalize fillF n hh rx ry rw rh (r, f, bk, x) = F at HFG HFL HF0 HF1
  generalize inside rx rw n = ins at HF1 HP
  obtain ⟨T, hT⟩ := Int.eq_ofNat_of_zero_le (show 0 ≤ max (nearI ry) 0 by omega)
  obtain ⟨Lf, hLf⟩ := Int.eq_ofNat_of_zero_le (show 0 ≤ max (nearI rx) 0 by omega)
  rw [hT] at HF0 HF1
  rw [hLf] at HP
  simp only [hT, hLf]
  generalize min (nearI rx + nearI rw) (n : Int) = Rt at *
  generalize min (nearI ry + nearI rh) (hh : Int) = Bt at *
  clear hT hLf e0 e1 e2 f0 f1 f2 f3 q0 q1
  go_wp2_with fail
  go_loopg [14] hh (fun q y wr => ∃ k : Nat, y = .int .i64 (k : Int) ∧ T ≤ k ∧ hh - k ≤ q ∧ Apart g [g] Y wr ∧ wr.heap[g]? = some (.cells (flat (upto n hh cs F k) ++ rest).toArray t (0, 0)))
  case atStart =>
    refine ⟨T, rfl, Nat.le_refl _, by omega, ⟨(Below.refl _ _).trans ⟨rfl, rfl, rfl, Nat.le_refl _, fun _ _ => rfl⟩, fun _ _ _ => rfl⟩, ?_⟩
    rw [upto_start n hh cs F T (fun y hy => HF0.out y (.inl (by omega)) _)]
    exact qg
  case round =>
    obtain ⟨k, rfl, hk, hq, hap, hv⟩ := hrel
    have hY := hap.1
    have v2 := hap.carry q2 (by simp; omega)
    have v3 := hap.carry q3 (by simp; omega)
    have vM := hap.carry qM (by simp; omega)
    have kW : Below w.heap.size w wr := kY.trans (hY.mono (by omega))
    by_cases hlt : (k : Int) < Bt
    · have hkh : k < hh := by omega
      have hrl := row_len n hh cs k HL.out hkh
      have HRW : Hid (Calls Tryd.prog 36 #[.agg #[.int .i64 (n : Int), .int .i64 (hh : Int), .slice (some ⟨g, 0, none⟩) cs.length cap], .int .i64 (k : Int)] wr fun e w' => e = .returned (.slice (some ⟨g, 0 + k * n * 4, none⟩) n (cap - k * n)) ∧ Below wr.heap.size wr w') := rowOf_any g 0 cs.length cap n k hh wr (by omega) (row_fits n hh _ k HL.out hkh) hlc hcm
      have HE : Hid (flat (upto n hh cs F k) ++ rest = flat (preF n cs F k) ++ (flat (rowAt n cs k) ++ (flat (cs.drop ((k + 1) * n)) ++ rest))) := by
        unfold Hid
        rw [upto_at n hh cs F k hkh, flat_three]
      have HN : Hid (flat (upto n hh cs F (k + 1)) ++ rest = flat (preF n cs F k) ++ (flat (F k (rowAt n cs k)) ++ (flat (cs.drop ((k + 1) * n)) ++ rest))) := by
        unfold Hid
        rw [upto_next n hh cs F k hkh, flat_three]
      have HFk : Hid (F k (rowAt n cs k) = mendL (putRow (rowAt n cs k) ins fun _ => (r, f, bk, x))) := HF1.out k (by omega) hlt _
      have hpl : (flat (preF n cs F k)).length = 0 + k * n * 4 := by rw [flat_len, preF_len n hh cs F HL.out HFL.out k (by omega)]; omega
      have HPL : Hid ((flat (preF n cs F k)).length = 0 + k * n * 4) := hpl
      rw [HE.out] at hv
      clear hpl HE
      generalize flat (preF n cs F k) = pre at *
      generalize flat (cs.drop ((k + 1) * n)) ++ rest = post at *
      have HRL : Hid ((rowAt n cs k).length = n) := hrl
      have HMR : Hid (∀ p, Alike (putRow (rowAt n cs k) p fun _ => (r, f, bk, x))) := HML.out k hkh
      clear hrl
      generalize hrow : rowAt n cs k = row at HN HFk HRL hv HMR
      clear hrow
      generalize hoff : 0 + k * n * 4 = off at *
      have ⟨vM0, vM1, vM2, _⟩ := cells3 vM
      go_wp2_with (go_at_call 36; refine HRW.out.mono ?_; rintro e W5 ⟨rfl, b5⟩)
      have hap5 : Apart g [g] Y W5 := hap.step b5 (by have := blk_lt hv; omega)
      have hv5 := carry hv b5
      clear hap hv v2 v3 vM vM0 vM1 vM2 kW b5 HRW hY
      go_loopg [16] n (fun q xx wr => ∃ j : Nat, xx = .int .i64 (j : Int) ∧ Lf ≤ j ∧ n - j ≤ q ∧ Apart g [g] Y wr ∧ wr.heap[g]? = some (.cells (pre ++ (flat (putRow row (fun u => ins u && decide (u < j)) fun _ => (r, f, bk, x)) ++ post)).toArray t (0, 0)))
      case atStart =>
        refine ⟨Lf, rfl, Nat.le_refl _, by omega, hap5, ?_⟩
        rw [putRow_none]
        · exact hv5
        · intro u _
          rw [HP.out u]
          simp
          omega
      case round =>
        clear hap5 hv5
        obtain ⟨j, rfl, hj, hq2, hap, hv⟩ := hrel
        have v2 := hap.carry q2 (by simp; omega)
        by_cases hlt2 : (j : Int) < Rt
        · have hjn : j < n := by omega
          have hth := there_cell hv j (by rw [putRow_len, HRL.out]; exact hjn)
          have hst := store_cell hv j (by rw [putRow_len, HRL.out]; exact hjn) (r, f, bk, x)
          rw [putRow_set row _ (fun u => ins u && decide (u < j + 1)) (fun _ => (r, f, bk, x)) j (by rw [HRL.out]; exact hjn) (fun u _ => by
            rw [HP.out u]
            by_cases huj : u = j
            · subst huj; simp; omega
            · simp only [huj, decide_false, Bool.or_false]
              rw [show decide (u < j + 1) = decide (u < j) by rw [decide_eq_decide]; omega])] at hst
          rw [HPL.out] at hth hst
          have HST : Hid ((wr.setCells g (off + j * 4) (words (r, f, bk, x))).heap[g]? = some (.cells (pre ++ (flat (putRow row (fun u => ins u && decide (u < j + 1)) fun _ => (r, f, bk, x)) ++ post)).toArray t (0, 0))) := hst
          have HTH : Hid (wr.there g (off + j * 4) 4) := hth
          have HAP : Hid (Apart g [g] Y (wr.setCells g (off + j * 4) (words (r, f, bk, x)))) := hap.setCells g _ _ (by simp) (Nat.le_refl _)
          clear hst hth hap hv
          go_wp2_with (first
            | (refine wpList_load_row rfl 40 _ rfl (w.heap.size + 2) rfl _ _ _ _ v2 Tryd.underlying40 rfl (by kernel_rfl) ?_)
            | (refine wpList_store_mid rfl 40 (.tmp 78) (.tmp 77) rfl g (off + j * 4) #[.int .i32 r, .int .i64 f, .int .i64 bk, .int .i64 x] rfl rfl HTH.out info_cell4 (words_one (r, f, bk, x)) ?_))
          go_roundg (n - (j + 1))
          case measure => omega
          case rel => exact ⟨j + 1, rfl, by omega, by omega, HAP.out, HST.out⟩
        · have HEQ : Hid (putRow row (fun u => ins u && decide (u < j)) (fun _ => (r, f, bk, x)) = putRow row ins fun _ => (r, f, bk, x)) := putRow_congr _ _ _ _ _ (fun u _ => ⟨by rw [HP.out u, Bool.eq_iff_iff]; simp; omega, fun _ => rfl⟩)
          rw [HEQ.out] at hv
          have KM := mend_any g (cap - k * n) (putRow row ins fun _ => (r, f, bk, x)) pre post t wr hv (by rw [putRow_len, HRL.out]; omega) (HT.out _ (kY.trans (hap.1.mono (by omega)))) (by have := HTP.out; omega) (HMR.out ins)
          rw [putRow_len, HRL.out, HPL.out, ← HFk.out, ← HN.out] at KM
          have HKM : Hid (Calls Tryd.prog 45 #[.slice (some ⟨g, off, none⟩) n (cap - k * n)] wr fun e w' => e = .returned (.tuple #[]) ∧ w'.heap[g]? = some (.cells (flat (upto n hh cs F (k + 1)) ++ rest).toArray t (0, 0)) ∧ Apart g [g] wr w') := KM
          have HAP : Hid (Apart g [g] Y wr) := hap
          clear KM HEQ v2 hv hap
          go_wp2_with (go_at_call 45; refine HKM.out.mono ?_; rintro e W6 ⟨rfl, hv6, ap6⟩)
          go_roundg (hh - (k + 1))
          case measure => omega
          case rel => exact ⟨k + 1, rfl, by omega, by omega, HAP.out.trans ap6, hv6⟩
    · have HEN : Hid (upto n hh cs F k = preF n cs F hh) := upto_end n hh cs F HL.out k (fun y hy => HF0.out y (.inr (by omega)) _)
      have HEL : Hid ((upto n hh cs F k).length = cs.length) := upto_len n hh cs F HL.out HFL.out k
      go_wp2_with (first
        | (refine wpList_load_row rfl 24 _ rfl M rfl _ _ _ _ vM Tryd.underlying24 rfl (by kernel_rfl) ?_)
        | (refine wpList_store_row rfl 24 (.tmp 6) _ rfl (w.heap.size + 3) #[.int .i64 (n : Int), .int .i64 (hh : Int), .slice (some ⟨g, 0, none⟩) cs.length cap] rfl rfl _ _ v3 (by kernel_rfl) rfl (one3v _ _ _ _ _) ?_))
      (try simp only [Exit.inBlock, Exit.then])
      refine bodyPost_ret (v := .tuple #[.agg #[.int .i64 (n : Int), .int .i64 (hh : Int), .slice (some ⟨g, 0, none⟩) cs.length cap], .int .i64 0]) ?_ rfl ⟨_, rfl, ?_, below_setRow kW (by omega) _⟩
      · exact results_row_tmp rfl _ _ (w.heap.size + 3) _ _ _ _ rfl (setRow_heap _ _ _ _ _ _ v3) Tryd.underlying24 rfl (by kernel_rfl) _ rfl
      · rw [← HFG.out, ← HEN.out]
        refine ⟨g, cap, rest, t, by rw [HEL.out], by omega, by rw [HEL.out]; exact hlc, hcm, ?_⟩
        rw [setRow_other _ _ _ _ (by omega)]
        exact hv
end Grd
end Go.Proofs.YtinhmklpnkikgaaDoor

/- The closed fact 'gridded'. -/
namespace Go.Proofs.YtinhmklpnkikgaaDoor
open Go.ChangeShapes Go.WideShapes Go.ChangeAt Go.RowKit
namespace Grd
theorem var_new (W : World) (T : TypeId) (z cs : Array Value) : ((W.alloc (.cells z T)).setRow W.heap.size cs).heap[W.heap.size]? = some (.cells cs T (0, 0)) ∧ Below W.heap.size W ((W.alloc (.cells z T)).setRow W.heap.size cs) :=
  ⟨setRow_heap _ _ _ _ _ _ (heap_alloc_new _ _), below_setRow ((Below.refl _ _).alloc (Nat.le_refl _) _) (Nat.le_refl _) _⟩
def gA : List C := [blank, blank, blank]
def gB : List C := [(26085, 0, 0, 0), (0, 0, 0, 0), (120, 0, 0, 0)]
def gC : List C := [(32, 0, 0, 0), (122, 0, 0, 0), (120, 0, 0, 0)]
def sunx : ByteArray := ⟨#[230, 151, 165, 120]⟩
theorem gA_ok : gridErr (3 : Nat) (1 : Nat) gA = 0 := by decide +kernel
theorem gB_ok : gridErr (3 : Nat) (1 : Nat) gB = 0 := by decide +kernel
theorem gC_ok : gridErr (3 : Nat) (1 : Nat) gC = 0 := by decide +kernel
theorem gB_is : writeG 3 1 gA 0 0 (Txt.runes sunx) (0, 0, 0) = gB := by decide +kernel
theorem gC_is : fillG 3 1 gB 1 0 1 1 (122, 0, 0, 0) = gC := by decide +kernel
theorem gL_is : linesL 3 1 gC = [⟨#[32, 122, 120]⟩] := by decide +kernel
theorem gNew (w : World) : Calls Tryd.prog 9 #[.int .i64 3, .int .i64 1] w fun e w' => ∃ (g cap : Nat) (rest : List Value) (t : TypeId), e = .returned (.tuple #[.agg #[.int .i64 3, .int .i64 1, .slice (some ⟨g, 0, none⟩) 3 cap], .int .i64 0]) ∧ 3 ≤ cap ∧ cap ≤ 9223372036854775807 ∧ w'.heap[g]? = some (.cells (flat gA ++ rest).toArray t (0, 0)) ∧ Below w.heap.size w w' :=
  (new_good 3 1 w (by decide)).mono fun e w' ⟨v, he, ⟨g, cap, rest, t, hv, _, hc, hm, hh⟩, hb⟩ => ⟨g, cap, rest, t, by rw [he, hv]; rfl, hc, hm, hh, hb⟩
theorem gWrite (g cap : Nat) (rest : List Value) (t : TypeId) (w : World) (hT : Txt.Tab w) (hc : 3 ≤ cap) (hm : cap ≤ 9223372036854775807) (hh : w.heap[g]? = some (.cells (flat gA ++ rest).toArray t (0, 0))) :
    Calls Tryd.prog 22 #[.agg #[.int .i64 3, .int .i64 1, .slice (some ⟨g, 0, none⟩) 3 cap], .int .i64 0, .int .i64 0, .string sunx, .agg #[.int .i64 0, .int .i64 0, .int .i64 0]] w fun e w' => ∃ (g cap : Nat) (rest : List Value) (t : TypeId), e = .returned (.tuple #[.agg #[.int .i64 3, .int .i64 1, .slice (some ⟨g, 0, none⟩) 3 cap], .int .i64 0]) ∧ 3 ≤ cap ∧ cap ≤ 9223372036854775807 ∧ w'.heap[g]? = some (.cells (flat gB ++ rest).toArray t (0, 0)) ∧ Below w.heap.size w w' := by
  have := write_good 3 1 g 0 cap 0 0 gA 0 0 0 sunx w hT (cellsAt_flat hh) gA_ok hc hm (by decide) (by decide) (by decide)
  rw [gB_is] at this
  exact this.mono fun e w' ⟨v, he, ⟨g, cap, rest, t, hv, _, hc, hm, hh⟩, hb⟩ => ⟨g, cap, rest, t, by rw [he, hv]; rfl, hc, hm, hh, hb⟩
theorem gFill (g cap : Nat) (rest : List Value) (t : TypeId) (w : World) (hT : Txt.Tab w) (hc : 3 ≤ cap) (hm : cap ≤ 9223372036854775807) (hh : w.heap[g]? = some (.cells (flat gB ++ rest).toArray t (0, 0))) :
    Calls Tryd.prog 18 #[.agg #[.int .i64 3, .int .i64 1, .slice (some ⟨g, 0, none⟩) 3 cap], .agg #[.int .i64 1, .int .i64 0, .int .i64 1, .int .i64 1], .agg #[.int .i32 122, .int .i64 0, .int .i64 0, .int .i64 0]] w fun e w' => ∃ (g cap : Nat) (rest : List Value) (t : TypeId), e = .returned (.tuple #[.agg #[.int .i64 3, .int .i64 1, .slice (some ⟨g, 0, none⟩) 3 cap], .int .i64 0]) ∧ 3 ≤ cap ∧ cap ≤ 9223372036854775807 ∧ w'.heap[g]? = some (.cells (flat gC ++ rest).toArray t (0, 0)) ∧ Below w.heap.size w w' := by
  have := fill_good 3 1 g 0 cap gB 1 0 1 1 122 0 0 0 w hT (cellsAt_flat hh) gB_ok hc hm (by decide +kernel) (by decide)
  rw [gC_is] at this
  exact this.mono fun e w' ⟨v, he, ⟨g, cap, rest, t, hv, _, hc, hm, hh⟩, hb⟩ => ⟨g, cap, rest, t, by rw [he, hv]; rfl, hc, hm, hh, hb⟩
theorem gLines (g cap : Nat) (rest : List Value) (t : TypeId) (w : World) (hT : Txt.Tab w) (hc : 3 ≤ cap) (hm : cap ≤ 9223372036854775807) (hh : w.heap[g]? = some (.cells (flat gC ++ rest).toArray t (0, 0))) :
    Calls Tryd.prog 31 #[.agg #[.int .i64 3, .int .i64 1, .slice (some ⟨g, 0, none⟩) 3 cap]] w fun e w' => ∃ (g : Nat), e = .returned (.tuple #[.slice (some ⟨g, 0, none⟩) 1 1, .int .i64 0]) ∧ w'.cell? ⟨g, 0, none⟩ = some (.string ⟨#[32, 122, 120]⟩) ∧ Below w.heap.size w w' := by
  have := lines_good 3 1 g 0 cap gC w hT (cellsAt_flat hh) gC_ok hc hm
  rw [gL_is] at this
  exact this.mono fun e w' ⟨v, he, ⟨g, t, hv, _, hh⟩, hb⟩ => ⟨g, by rw [he, hv]; rfl, by simp [World.cell?, hh], hb⟩
theorem gEqual (b1 b2 : Nat) (w : World) (h1 : w.cell? ⟨b1, 0, none⟩ = some (.string ⟨#[32, 122, 120]⟩)) (h2 : w.cell? ⟨b2, 0, none⟩ = some (.string ⟨#[32, 122, 120]⟩)) :
    Calls Tryd.prog 32 #[.slice (some ⟨b1, 0, none⟩) 1 1, .slice (some ⟨b2, 0, none⟩) 1 1] w fun e w' => e = .returned (.bool true) ∧ Below w.heap.size w w' := by
  have h := Tryd.slices_Equal_string b1 0 1 1 b2 0 1 1 [⟨#[32, 122, 120]⟩] [⟨#[32, 122, 120]⟩] w (by decide) (by decide) (by decide) (by decide)
    (fun j hj => by obtain rfl : j = 0 := by simp at hj; omega
                    exact h1) (fun j hj => by obtain rfl : j = 0 := by simp at hj; omega
                                              exact h2)
  exact h.mono fun e w' ⟨he, q, hw⟩ => ⟨he, by rw [hw]; exact ⟨rfl, rfl, rfl, Nat.le_refl _, fun _ _ => rfl⟩⟩
end Grd
end Go.Proofs.YtinhmklpnkikgaaDoor

/- The walk of 'gridded'. -/
namespace Go.Proofs.YtinhmklpnkikgaaDoor
open Go.ChangeShapes Go.WideShapes Go.ChangeAt Go.RowKit
namespace Grd
set_option maxHeartbeats 4000000 in
theorem gridded_any (w : World) (hT : Txt.Tab w) : Calls Tryd.prog 10 #[] w fun e w' => e = .returned (.bool true) ∧ Below w.heap.size w w' := by
  have HT : Hid (∀ W, Below w.heap.size w W → Txt.Tab W) := fun W k => Tab.next hT k
  clear hT
  go_enter Tryd.func10, Tryd.ntmps10
  go_wp2_with (first
    | (go_at_call 9; refine (gNew _).mono ?_; rintro e W1 ⟨g1, c1, r1, t1, rfl, hc1, hm1, h1, b1⟩)
    | (refine wpList_store_row rfl 24 (.tmp 1) _ rfl W1.heap.size #[.int .i64 3, .int .i64 1, .slice (some ⟨g1, 0, none⟩) 3 c1] rfl rfl _ _ (heap_alloc_new W1 _) (by kernel_rfl) rfl (one3v _ _ _ _ _) ?_
       obtain ⟨m1, a1⟩ := var_new W1 24 #[.int .i64 0, .int .i64 0, .slice none 0 0] #[.int .i64 3, .int .i64 1, .slice (some ⟨g1, 0, none⟩) 3 c1]
       generalize ((W1.alloc (.cells #[.int .i64 0, .int .i64 0, .slice none 0 0] 24)).setRow W1.heap.size #[.int .i64 3, .int .i64 1, .slice (some ⟨g1, 0, none⟩) 3 c1]) = X1 at *
       have k1 := b1.trans (a1.mono b1.size)
       have h1' := carry h1 a1)
    | (refine wpList_load_row rfl 24 _ rfl W1.heap.size rfl _ _ _ _ m1 Tryd.underlying24 rfl (by kernel_rfl) ?_)
    | (go_at_call 22; refine (gWrite g1 c1 r1 t1 _ (HT.out _ k1) hc1 hm1 h1').mono ?_; rintro e W2 ⟨g2, c2, r2, t2, rfl, hc2, hm2, h2, b2⟩)
    | (refine wpList_store_row rfl 24 (.tmp 3) _ rfl W2.heap.size #[.int .i64 3, .int .i64 1, .slice (some ⟨g2, 0, none⟩) 3 c2] rfl rfl _ _ (heap_alloc_new W2 _) (by kernel_rfl) rfl (one3v _ _ _ _ _) ?_
       obtain ⟨m2, a2⟩ := var_new W2 24 #[.int .i64 0, .int .i64 0, .slice none 0 0] #[.int .i64 3, .int .i64 1, .slice (some ⟨g2, 0, none⟩) 3 c2]
       generalize ((W2.alloc (.cells #[.int .i64 0, .int .i64 0, .slice none 0 0] 24)).setRow W2.heap.size #[.int .i64 3, .int .i64 1, .slice (some ⟨g2, 0, none⟩) 3 c2]) = X2 at *
       have k2 := (k1.trans (b2.mono k1.size)).trans (a2.mono (k1.trans (b2.mono k1.size)).size)
       have h2' := carry h2 a2)
    | (refine wpList_load_row rfl 24 _ rfl W2.heap.size rfl _ _ _ _ m2 Tryd.underlying24 rfl (by kernel_rfl) ?_)
    | (go_at_call 18; refine (gFill g2 c2 r2 t2 _ (HT.out _ k2) hc2 hm2 h2').mono ?_; rintro e W3 ⟨g3, c3, r3, t3, rfl, hc3, hm3, h3, b3⟩)
    | (refine wpList_store_row rfl 24 (.tmp 5) _ rfl W3.heap.size #[.int .i64 3, .int .i64 1, .slice (some ⟨g3, 0, none⟩) 3 c3] rfl rfl _ _ (heap_alloc_new W3 _) (by kernel_rfl) rfl (one3v _ _ _ _ _) ?_
       obtain ⟨m3, a3⟩ := var_new W3 24 #[.int .i64 0, .int .i64 0, .slice none 0 0] #[.int .i64 3, .int .i64 1, .slice (some ⟨g3, 0, none⟩) 3 c3]
       generalize ((W3.alloc (.cells #[.int .i64 0, .int .i64 0, .slice none 0 0] 24)).setRow W3.heap.size #[.int .i64 3, .int .i64 1, .slice (some ⟨g3, 0, none⟩) 3 c3]) = X3 at *
       have k3 := (k2.trans (b3.mono k2.size)).trans (a3.mono (k2.trans (b3.mono k2.size)).size)
       have h3' := carry h3 a3)
    | (refine wpList_load_row rfl 24 _ rfl W3.heap.size rfl _ _ _ _ m3 Tryd.underlying24 rfl (by kernel_rfl) ?_)
    | (go_at_call 31; refine (gLines g3 c3 r3 t3 _ (HT.out _ k3) hc3 hm3 h3').mono ?_; rintro e W4 ⟨g4, rfl, h4, b4⟩; have k4 := k3.trans (b4.mono k3.size))
    | (go_at_call 32; refine (gEqual g4 W4.heap.size _ (cell_keep ((Below.refl _ _).alloc (Nat.le_refl _) _) h4) (by simp)).mono ?_; rintro e W5 ⟨rfl, b5⟩))
  go_ret
  have ka := k4.alloc k4.size (.cells #[.string ⟨#[32, 122, 120]⟩] 9)
  exact ⟨rfl, ka.trans (b5.mono ka.size)⟩
end Grd
end Go.Proofs.YtinhmklpnkikgaaDoor

/- The walk of overwrite. -/
namespace Go.Proofs.YtinhmklpnkikgaaDoor
open Go.ChangeShapes Go.WideShapes Go.ChangeAt Go.RowKit
namespace Grd
open Txt (wd)
theorem CellsAt.apart {w w' : World} {N : Nat} {S : List Nat} {b o : Nat} {cs : List C} (h : CellsAt w b o cs) (ha : Apart N S w w') (hb : b ∉ S) : CellsAt w' b o cs := fun j hj => by
  obtain ⟨h0, h1, h2, h3⟩ := h j hj
  have hlt := World.block_lt_of_cell? w _ h0
  have e : ∀ i, w'.cell? ⟨b, i, none⟩ = w.cell? ⟨b, i, none⟩ := fun i => by
    unfold World.cell?
    rw [ha.2 b hb hlt]
  exact ⟨(e _).trans h0, (e _).trans h1, (e _).trans h2, (e _).trans h3⟩
/-- The cells of a grid of width m and height p upon another's rows, from X, Y on. -/
def layFn (m p : Nat) (fs : List C) (X Y : Int) (y : Nat) (row : List C) : List C :=
  if Y ≤ (y : Int) ∧ (y : Int) < Y + p then mendL (putRow row (layP m X) (layF (rowAt m fs ((y : Int) - Y).toNat) X)) else row
def layG (n hh : Nat) (cs : List C) (m p : Nat) (fs : List C) (X Y : Int) : List C := preF n cs (layFn m p fs X Y) hh
theorem layFn_len (n m p : Nat) (fs : List C) (X Y : Int) : KeepLen n (layFn m p fs X Y) := fun y row h => by
  unfold layFn
  split
  · rw [mendL_len, putRow_len, h]
  · exact h
theorem size_cellO : (Tryd.prog.info? 40).map (·.size) = some 4 := by kernel_rfl
theorem wpList_store_cellO {ops : Array Oper} {rest : List Oper} {op : Oper} {a : Act} {w : World} {Q : Exit → Act → World → Prop} (hgd : op.guard = none) (x y : Operand) (ho : op.op = .store 40 x y)
    (g o : Nat) (c : C) (hx : a.eval x = .pointer (some ⟨g, o, none⟩)) (hy : a.eval y = .agg #[.int .i32 c.1, .int .i64 c.2.1, .int .i64 c.2.2.1, .int .i64 c.2.2.2]) (ht : w.there g o 4)
    (h : ∀ Z, Z = w.setCells g o (words c) → wpList Tryd.prog ops Q rest (a.put op.dst undef) Z) : wpList Tryd.prog ops Q (op :: rest) a w :=
  wpList_store_mid hgd 40 x y ho g o _ hx hy ht size_cellO (words_one c) (h _ rfl)
theorem alloc2' (w : World) (o0 o1 : Obj) : ((w.alloc o0).alloc o1).heap[w.heap.size]? = some o0 ∧ ((w.alloc o0).alloc o1).heap[w.heap.size + 1]? = some o1 ∧ Below w.heap.size w ((w.alloc o0).alloc o1) ∧ ((w.alloc o0).alloc o1).heap.size = w.heap.size + 2 := by
  have s1 : (w.alloc o0).heap.size = w.heap.size + 1 := by simp
  refine ⟨?_, ?_, ((Below.refl _ _).alloc (Nat.le_refl _) _).alloc (by omega) _, by simp⟩
  · rw [Below.heap_alloc _ _ _ (by omega), heap_alloc_new]
  · rw [← s1, heap_alloc_new]
set_option maxHeartbeats 8000000 in
set_option maxRecDepth 100000 in
theorem overwrite_any (n hh g cap : Nat) (cs : List C) (rest : List Value) (t : TypeId) (m p b o cx : Nat) (fs : List C) (X Y : Int) (w : World) (hT : Txt.Tab w) (hg : 0 < g)
    (hh1 : w.heap[g]? = some (.cells (flat cs ++ rest).toArray t (0, 0))) (hL : cs.length = n * hh) (hn1 : 1 ≤ n) (hn2 : n ≤ 120) (hh2 : hh ≤ 60) (hlc : cs.length ≤ cap) (hcm : cap ≤ 9223372036854775807)
    (hF : CellsAt w b o fs) (hbg : b ≠ g) (hLf : fs.length = m * p) (hm1 : 1 ≤ m) (hm2 : m ≤ 120) (hp2 : p ≤ 60) (hlf : fs.length ≤ cx) (hcx : cx ≤ 9223372036854775807) (hX : -1000 ≤ X) (hX' : X ≤ 1000) (hY : -1000 ≤ Y) (hY' : Y ≤ 1000) (hMc : ∀ y, y < hh → Meant (rowAt n cs y)) (hRf : ∀ y, y < p → RightRow (rowAt m fs y)) :
    Calls Tryd.prog 48 #[.agg #[.int .i64 (n : Int), .int .i64 (hh : Int), .slice (some ⟨g, 0, none⟩) cs.length cap], .agg #[.int .i64 (m : Int), .int .i64 (p : Int), .slice (some ⟨b, o, none⟩) fs.length cx], .int .i64 X, .int .i64 Y] w fun e w' => e = .returned (.tuple #[]) ∧ w'.heap[g]? = some (.cells (flat (layG n hh cs m p fs X Y) ++ rest).toArray t (0, 0)) ∧ Apart g [g] w w' := by
  have HTP : Hid (0 < g) := hg
  have HT : Hid (Txt.Tab w) := hT
  have HF : Hid (CellsAt w b o fs) := hF
  have HL : Hid (cs.length = n * hh) := hL
  have HLf : Hid (fs.length = m * p) := hLf
  have hgw := blk_lt hh1
  have HMC : Hid (∀ y, y < hh → Meant (rowAt n cs y)) := hMc
  have HRF : Hid (∀ y, y < p → RightRow (rowAt m fs y)) := hRf
  clear hMc hRf
  obtain ⟨x0, x1, kk, hsz⟩ := alloc2' w (.cells #[.int .i64 (n : Int), .int .i64 (hh : Int), .slice (some ⟨g, 0, none⟩) cs.length cap] 24) (.cells #[.int .i64 (m : Int), .int .i64 (p : Int), .slice (some ⟨b, o, none⟩) fs.length cx] 24)
  generalize hW0 : ((w.alloc (.cells #[.int .i64 (n : Int), .int .i64 (hh : Int), .slice (some ⟨g, 0, none⟩) cs.length cap] 24)).alloc (.cells #[.int .i64 (m : Int), .int .i64 (p : Int), .slice (some ⟨b, o, none⟩) fs.length cx] 24)) = W0 at x0 x1 kk hsz
  have HW0 : Hid (_ = W0) := hW0
  clear hT hF hL hLf hg hW0
  go_enter Tryd.func48, Tryd.ntmps48
  have r1 : ∀ W, Calls Tryd.prog 43 #[.int .i64 X, .int .i64 (m : Int), .int .i64 (n : Int)] W fun e w' => e = .returned (.tuple #[.int .i64 (max X 0), .int .i64 (min (X + m) n)]) ∧ W = w' := fun W => reach_any X m n W (by omega) (by omega) (by omega) (by omega)
  have r2 : ∀ W, Calls Tryd.prog 43 #[.int .i64 Y, .int .i64 (p : Int), .int .i64 (hh : Int)] W fun e w' => e = .returned (.tuple #[.int .i64 (max Y 0), .int .i64 (min (Y + p) hh)]) ∧ W = w' := fun W => reach_any Y p hh W (by omega) (by omega) (by omega) (by omega)
  have R1 : Hid (∀ W, Calls Tryd.prog 43 #[.int .i64 X, .int .i64 (m : Int), .int .i64 (n : Int)] W fun e w' => e = .returned (.tuple #[.int .i64 (max X 0), .int .i64 (min (X + m) n)]) ∧ W = w') := r1
  have R2 : Hid (∀ W, Calls Tryd.prog 43 #[.int .i64 Y, .int .i64 (p : Int), .int .i64 (hh : Int)] W fun e w' => e = .returned (.tuple #[.int .i64 (max Y 0), .int .i64 (min (Y + p) hh)]) ∧ W = w') := r2
  clear r1 r2
  go_wp2_with fail
  refine (R1.out _).mono ?_
  rintro e _ ⟨rfl, rfl⟩
  go_wp2_with fail
  refine (R2.out _).mono ?_
  rintro e _ ⟨rfl, rfl⟩
  rw [HW0.out]
  go_wp2_with fail
  have hv0 := carry hh1 kk
  have HTW : Hid (∀ W, Apart g [g] W0 W → Txt.Tab W) := fun W k => (Tab.next HT.out kk).below k.1 HTP.out
  have HFW : Hid (∀ W, Apart g [g] W0 W → CellsAt W b o fs) := fun W k => (HF.out.below kk).apart k (by simpa using hbg)
  have HFG : Hid (preF n cs (layFn m p fs X Y) hh = layG n hh cs m p fs X Y) := rfl
  have HFL : Hid (KeepLen n (layFn m p fs X Y)) := layFn_len n m p fs X Y
  have HF0 : Hid (∀ y : Nat, (y < hh ∨ hh ≤ y) → ((y : Int) < max Y 0 ∨ ¬ (y : Int) < min (Y + p) hh) → y < hh → ∀ row, layFn m p fs X Y y row = row) := fun y _ hy hyh row => by
    unfold layFn
    rw [if_neg (by omega)]
  have HF1 : Hid (∀ y : Nat, max Y 0 ≤ (y : Int) → (y : Int) < min (Y + p) hh → ∀ row, layFn m p fs X Y y row = mendL (putRow row (layP m X) (layF (rowAt m fs ((y : Int) - Y).toNat) X))) := fun y h1 h2 row => by
    unfold layFn
    rw [if_pos (by omega)]
  have hBt : min (Y + p) (hh : Int) ≤ hh := by omega
  have hBt2 : min (Y + p) (hh : Int) ≤ Y + p := by omega
  have hTT : Y ≤ max Y 0 := by omega
  have hRt : min (X + m) (n : Int) ≤ n := by omega
  have hRt2 : min (X + m) (n : Int) ≤ X + m := by omega
  have hLL : X ≤ max X 0 := by omega
  have hRl : ∀ u : Nat, u < n → ((u : Int) < X + m → (u : Int) < min (X + m) (n : Int)) := by intro u hu h; omega
  have HRl : Hid (∀ u : Nat, u < n → ((u : Int) < X + m → (u : Int) < min (X + m) (n : Int))) := hRl
  have hLl : ∀ u : Nat, X ≤ (u : Int) → max X 0 ≤ (u : Int) := by intro u h; omega
  have HLl : Hid (∀ u : Nat, X ≤ (u : Int) → max X 0 ≤ (u : Int)) := hLl
  clear hRl hLl
  generalize layFn m p fs X Y = F at HFG HFL HF0 HF1
  obtain ⟨T, hT⟩ := Int.eq_ofNat_of_zero_le (show 0 ≤ max Y 0 by omega)
  obtain ⟨Lf, hLf⟩ := Int.eq_ofNat_of_zero_le (show 0 ≤ max X 0 by omega)
  rw [hT] at HF0 HF1 hTT
  rw [hLf] at hLL HLl
  simp only [hT, hLf]
  generalize min (X + m) (n : Int) = Rt at *
  generalize min (Y + p) (hh : Int) = Bt at *
  clear hT hLf R1 R2 HW0
  go_loopg [12] hh (fun q y wr => ∃ k : Nat, y = .int .i64 (k : Int) ∧ T ≤ k ∧ hh - k ≤ q ∧ Apart g [g] W0 wr ∧ wr.heap[g]? = some (.cells (flat (upto n hh cs F k) ++ rest).toArray t (0, 0)))
  case atStart =>
    refine ⟨T, rfl, Nat.le_refl _, by omega, Apart.refl _ _ _, ?_⟩
    have : upto n hh cs F T = cs := by
      unfold upto
      rw [preF_id n cs F _ (fun y hy => HF0.out y (.inl (by omega)) (.inl (by omega)) (by omega) _), List.take_append_drop]
    rw [this]
    exact hv0
  case round =>
    obtain ⟨k, rfl, hk, hq, hap, hv⟩ := hrel
    have v0 := hap.carry x0 (by simp; omega)
    have v1 := hap.carry x1 (by simp; omega)
    by_cases hlt : (k : Int) < Bt
    · have hkh : k < hh := by omega
      obtain ⟨qy, hqy⟩ := Int.eq_ofNat_of_zero_le (show 0 ≤ (k : Int) - Y by omega)
      have hqp : qy < p := by omega
      have hrl := row_len n hh cs k HL.out hkh
      have hfl := row_len m p fs qy HLf.out hqp
      obtain ⟨e0, e1, e2, _⟩ := cells3 v0
      obtain ⟨f0, f1, f2, _⟩ := cells3 v1
      have y0 : ∀ d os, (Sort.grow (redrawn wr d) os).cell? ⟨w.heap.size, 0, none⟩ = some (.int .i64 (n : Int)) := fun d os => cell_regrown e0 d os
      have y1 : ∀ d os, (Sort.grow (redrawn wr d) os).cell? ⟨w.heap.size, 1, none⟩ = some (.int .i64 (hh : Int)) := fun d os => cell_regrown e1 d os
      have y2 : ∀ d os, (Sort.grow (redrawn wr d) os).cell? ⟨w.heap.size, 2, none⟩ = some (.slice (some ⟨g, 0, none⟩) cs.length cap) := fun d os => cell_regrown e2 d os
      have z0 : ∀ d os, (Sort.grow (redrawn wr d) os).cell? ⟨w.heap.size + 1, 0, none⟩ = some (.int .i64 (m : Int)) := fun d os => cell_regrown f0 d os
      have z1 : ∀ d os, (Sort.grow (redrawn wr d) os).cell? ⟨w.heap.size + 1, 1, none⟩ = some (.int .i64 (p : Int)) := fun d os => cell_regrown f1 d os
      have z2 : ∀ d os, (Sort.grow (redrawn wr d) os).cell? ⟨w.heap.size + 1, 2, none⟩ = some (.slice (some ⟨b, o, none⟩) fs.length cx) := fun d os => cell_regrown f2 d os
      have K1 : Hid (∀ d os, Calls Tryd.prog 36 #[.agg #[.int .i64 (n : Int), .int .i64 (hh : Int), .slice (some ⟨g, 0, none⟩) cs.length cap], .int .i64 (k : Int)] (Sort.grow (redrawn wr d) os) fun e w'' => e = .returned (.slice (some ⟨g, 0 + k * n * 4, none⟩) n (cap - k * n)) ∧ ∃ p : Regrown, w'' = Sort.grow (redrawn wr p.d) p.os) := fun d os => Calls.regrown_of (rowOf_any g 0 cs.length cap n k hh _ hn1 (row_fits n hh _ k HL.out hkh) hlc hcm)
      have K2 : Hid (∀ d os, Calls Tryd.prog 36 #[.agg #[.int .i64 (m : Int), .int .i64 (p : Int), .slice (some ⟨b, o, none⟩) fs.length cx], .int .i64 (qy : Int)] (Sort.grow (redrawn wr d) os) fun e w'' => e = .returned (.slice (some ⟨b, o + qy * m * 4, none⟩) m (cx - qy * m)) ∧ ∃ p : Regrown, w'' = Sort.grow (redrawn wr p.d) p.os) := fun d os => Calls.regrown_of (rowOf_any b o fs.length cx m qy p _ hm1 (row_fits m p _ qy HLf.out hqp) hlf hcx)
      have hsub : IntKind.i64.wrap ((k : Int) - Y) = (qy : Int) := by rw [hqy]; exact IntWalk.i64_in _ (by omega)
      have HQY : Hid (((k : Int) - Y).toNat = qy) := by unfold Hid; rw [hqy]; rfl
      clear hqy e0 e1 e2 f0 f1 f2
      go_wp2_with fail
      refine wp_region_quiet_below (by kernel_rfl) (by kernel_rfl) ?_
      repeat (first | go_big_quiet_skip | quiet_step (first | (go_at_call_of 36 qy; exact K2.out _ _) | (go_at_call_of 36 cap; exact K1.out _ _)))
      refine wpQuiet_nil ?_
      intro _ hw'
      obtain ⟨⟨dq, os⟩, hw''⟩ := hw'
      subst hw''
      have kR := below_regrown wr dq os
      have ap5 : Apart g [g] W0 (Sort.grow (redrawn wr dq) os) := hap.step kR (Nat.le_of_lt (blk_lt hv))
      have hv5 := carry hv kR
      clear K1 K2 y0 y1 y2 z0 z1 z2 v0 v1 kR hap hv
      generalize Sort.grow (redrawn wr dq) os = V at *
      have HE : Hid (flat (upto n hh cs F k) ++ rest = flat (preF n cs F k) ++ (flat (rowAt n cs k) ++ (flat (cs.drop ((k + 1) * n)) ++ rest))) := by
        unfold Hid
        rw [upto_at n hh cs F k hkh, flat_three]
      have HN : Hid (flat (upto n hh cs F (k + 1)) ++ rest = flat (preF n cs F k) ++ (flat (F k (rowAt n cs k)) ++ (flat (cs.drop ((k + 1) * n)) ++ rest))) := by
        unfold Hid
        rw [upto_next n hh cs F k hkh, flat_three]
      have HFk : Hid (F k (rowAt n cs k) = mendL (putRow (rowAt n cs k) (layP m X) (layF (rowAt m fs qy) X))) := by
        have := HF1.out k (by omega) hlt (rowAt n cs k)
        rw [HQY.out] at this
        exact this
      have hpl : (flat (preF n cs F k)).length = k * n * 4 := by rw [flat_len, preF_len n hh cs F HL.out HFL.out k (by omega)]
      have HPL : Hid ((flat (preF n cs F k)).length = k * n * 4) := hpl
      have HFR : Hid (∀ W, Apart g [g] W0 W → CellsAt W b (o + qy * m * 4) (rowAt m fs qy)) := fun W k' => (HFW.out W k').part (qy * m) m (by have := row_fits m p _ qy HLf.out hqp; rw [Nat.add_mul, Nat.one_mul] at this; omega)
      rw [HE.out] at hv5
      clear hpl HE HQY
      generalize flat (preF n cs F k) = pre at *
      generalize flat (cs.drop ((k + 1) * n)) ++ rest = post at *
      have HRL : Hid ((rowAt n cs k).length = n) := hrl
      have HFRL : Hid ((rowAt m fs qy).length = m) := hfl
      have HMR : Hid (Alike (putRow (rowAt n cs k) (layP m X) (layF (rowAt m fs qy) X))) := by
        have := (meant_lay (rowAt n cs k) (rowAt m fs qy) X (HMC.out k hkh) (HRF.out qy hqp)).alike
        rw [hfl] at this
        exact this
      clear hrl hfl
      generalize rowAt n cs k = row at *
      generalize rowAt m fs qy = frow at *
      generalize k * n * 4 = off at *
      generalize o + qy * m * 4 = fo at *
      go_wp2_with fail
      go_loopg [15] n (fun q xx wv => ∃ j : Nat, xx = .int .i64 (j : Int) ∧ Lf ≤ j ∧ n - j ≤ q ∧ Apart g [g] W0 wv ∧ wv.heap[g]? = some (.cells (pre ++ (flat (putRow row (fun u => layP m X u && decide (u < j)) (layF frow X)) ++ post)).toArray t (0, 0)))
      case atStart =>
        refine ⟨Lf, rfl, Nat.le_refl _, by omega, ap5, ?_⟩
        rw [putRow_none]
        · exact hv5
        · intro u hu
          unfold layP
          have := HLl.out u
          simp
          omega
      case round =>
        clear ap5 hv5
        obtain ⟨j, rfl, hj, hq2, hap, hv⟩ := hrel
        by_cases hlt2 : (j : Int) < Rt
        · have hjn : j < n := by omega
          obtain ⟨u, hu⟩ := Int.eq_ofNat_of_zero_le (show 0 ≤ (j : Int) - X by omega)
          have hum : u < m := by omega
          have hrg := range_cell (HFR.out wr hap) u (by rw [HFRL.out]; exact hum)
          have HLF : Hid (layF frow X j = frow.getD u z0) := by unfold Hid layF; rw [hu]; rfl
          have hth := there_cell hv j (by rw [putRow_len, HRL.out]; exact hjn)
          have hst := store_cell hv j (by rw [putRow_len, HRL.out]; exact hjn) (layF frow X j)
          rw [putRow_set row _ (fun u => layP m X u && decide (u < j + 1)) (layF frow X) j (by rw [HRL.out]; exact hjn) (fun v _ => by
            by_cases hvj : v = j
            · subst hvj; unfold layP; simp; omega
            · simp only [hvj, decide_false, Bool.or_false]
              rw [show decide (v < j + 1) = decide (v < j) by rw [decide_eq_decide]; omega])] at hst
          rw [HPL.out] at hth hst
          rw [HLF.out] at hst
          rcases hce : frow.getD u z0 with ⟨r, f, bk, x⟩
          rw [hce] at hrg hst
          have HRG : Hid (wr.rangeAt b (fo + u * 4) (words (r, f, bk, x))) := hrg
          have HST : Hid ((wr.setCells g (off + j * 4) (words (r, f, bk, x))).heap[g]? = some (.cells (pre ++ (flat (putRow row (fun u => layP m X u && decide (u < j + 1)) (layF frow X)) ++ post)).toArray t (0, 0))) := hst
          have HTH : Hid (wr.there g (off + j * 4) 4) := hth
          have HAP : Hid (Apart g [g] W0 (wr.setCells g (off + j * 4) (words (r, f, bk, x)))) := hap.setCells g _ _ (by simp) (Nat.le_refl _)
          have hub : (u : Int) < (m : Int) := by omega
          clear hst hth hap hv hce hrg HLF
          go_wp2_with (first
            | (refine wpList_load_mid rfl 40 (.tmp 60) rfl b (fo + u * 4) rfl (words (r, f, bk, x)) _ HRG.out Tryd.underlying40 rfl size_cellO ?_)
            | (refine wpList_store_cellO rfl (.tmp 62) (.tmp 61) rfl g (off + j * 4) (r, f, bk, x) rfl rfl HTH.out ?_
               intro Z hZ
               have hvZ := HST.out
               have apZ := HAP.out
               rw [← hZ] at hvZ apZ
               clear hZ))
          go_roundg (n - (j + 1))
          case measure => omega
          case rel => exact ⟨j + 1, rfl, by omega, by omega, apZ, hvZ⟩
        · have HEQ : Hid (putRow row (fun u => layP m X u && decide (u < j)) (layF frow X) = putRow row (layP m X) (layF frow X)) := putRow_congr _ _ _ _ _ (fun u hu => ⟨by
            have := HRl.out u (by rw [HRL.out] at hu; exact hu)
            unfold layP
            rw [Bool.eq_iff_iff]
            simp
            omega, fun _ => rfl⟩)
          rw [HEQ.out] at hv
          have KM := mend_any g (cap - k * n) (putRow row (layP m X) (layF frow X)) pre post t wr hv (by rw [putRow_len, HRL.out]; omega) (HTW.out _ hap) HTP.out HMR.out
          rw [putRow_len, HRL.out, HPL.out, ← HFk.out, ← HN.out] at KM
          have HKM : Hid (Calls Tryd.prog 45 #[.slice (some ⟨g, off, none⟩) n (cap - k * n)] wr fun e w' => e = .returned (.tuple #[]) ∧ w'.heap[g]? = some (.cells (flat (upto n hh cs F (k + 1)) ++ rest).toArray t (0, 0)) ∧ Apart g [g] wr w') := KM
          have HAP : Hid (Apart g [g] W0 wr) := hap
          clear KM HEQ hv hap
          go_wp2_with fail
          refine HKM.out.mono ?_
          rintro e W6 ⟨rfl, hv6, ap6⟩
          go_wp2_with fail
          go_roundg (hh - (k + 1))
          case measure => omega
          case rel => exact ⟨k + 1, rfl, by omega, by omega, HAP.out.trans ap6, hv6⟩
    · have HEN : Hid (upto n hh cs F k = preF n cs F hh) := by
        unfold Hid upto
        by_cases hkh : k ≤ hh
        · rw [Nat.min_eq_left hkh]
          exact (preF_rest n hh cs F HL.out k (hh - k) (by omega) (fun y h1 h2 => HF0.out y (.inl h2) (.inr (by omega)) h2 _)).symm
        · rw [Nat.min_eq_right (by omega), List.drop_of_length_le (by rw [HL.out, Nat.mul_comm]; exact Nat.le_refl _), List.append_nil]
      go_wp2_with fail
      go_end0
      refine ⟨rfl, ?_, ?_⟩
      · rw [← HFG.out, ← HEN.out]; exact hv
      · exact (Apart.of kk (by omega)).trans (hap.mono (Nat.le_refl _) (fun _ h => h))
end Grd
end Go.Proofs.YtinhmklpnkikgaaDoor

/- The walk of grid.Lay. -/
namespace Go.Proofs.YtinhmklpnkikgaaDoor
open Go.ChangeShapes Go.WideShapes Go.ChangeAt Go.RowKit
namespace Grd
theorem var_newL (W : World) (T : TypeId) (z cs : Array Value) : ((W.alloc (.cells z T)).setRow W.heap.size cs).heap[W.heap.size]? = some (.cells cs T (0, 0)) ∧ Below W.heap.size W ((W.alloc (.cells z T)).setRow W.heap.size cs) :=
  ⟨setRow_heap _ _ _ _ _ _ (heap_alloc_new _ _), below_setRow ((Below.refl _ _).alloc (Nat.le_refl _) _) (Nat.le_refl _) _⟩
theorem okRange (n hh : Nat) (cs : List C) (hok : gridErr n hh cs = 0) : cs.length = n * hh ∧ 1 ≤ n ∧ n ≤ 120 ∧ 1 ≤ hh ∧ hh ≤ 60 ∧ cs.length ≤ 7200 ∧ cs ≠ [] := by
  obtain ⟨hsize, hL, _⟩ := (gridErr_zero n hh cs).1 hok
  have ⟨_, p1, p2, p3, p4, p5⟩ := prod_in n hh hsize
  have h7 : cs.length ≤ 7200 := by
    have : ((n * hh : Nat) : Int) ≤ 7200 := by rw [Int.natCast_mul]; exact p1
    omega
  refine ⟨hL, by omega, by omega, by omega, by omega, h7, fun h => ?_⟩
  rw [h, List.length_nil] at hL
  have : 0 < n * hh := Nat.mul_pos (by omega) (by omega)
  omega
theorem slice_block {w : World} {b o : Nat} {cs : List C} (h : CellsAt w b o cs) (hne : cs ≠ []) : b < w.heap.size :=
  World.block_lt_of_cell? w _ (h 0 (List.length_pos_iff.2 hne)).1
set_option maxHeartbeats 1000000 in
theorem lay_bad1 (a1 h1 a2 h2 px py : Int) (v1 v2 : Value) (fs : List C) (w : World) (hT : Txt.Tab w) (hS : SliceAt w v1 fs) (hok : gridErr a1 h1 fs ≠ 0) :
    Calls Tryd.prog 24 #[.agg #[.int .i64 a1, .int .i64 h1, v1], .agg #[.int .i64 a2, .int .i64 h2, v2], .int .i64 px, .int .i64 py] w fun e w' => e = .returned (.tuple #[.agg #[.int .i64 0, .int .i64 0, .slice none 0 0], .int .i64 (gridErr a1 h1 fs)]) ∧ Below w.heap.size w w' := by
  obtain ⟨_, _, x2, kk, hsz⟩ := alloc3 w (.cells #[.int .i64 a1, .int .i64 h1, v1] 24) (.cells #[.int .i64 a2, .int .i64 h2, v2] 24) (.cells #[.int .i64 0, .int .i64 0, .slice none 0 0] 24)
  have HK := check_any a1 h1 v1 fs _ (Tab.next hT kk) (hS.below kk)
  generalize gridErr a1 h1 fs = er at *
  have ne : (er != 0) = true := by simpa using hok
  clear hok hT hS
  go_enter Tryd.func24, Tryd.ntmps24
  go_wp2_with fail
  refine HK.mono ?_
  rintro e W1 ⟨rfl, b1⟩
  have y2 := carry x2 b1
  go_wp2_with (refine wpList_store_row rfl 24 (.tmp 8) _ rfl (w.heap.size + 2) #[.int .i64 0, .int .i64 0, .slice none 0 0] rfl rfl _ _ y2 (by kernel_rfl) rfl (one3v _ _ _ _ _) ?_)
  (try simp only [Exit.inBlock, Exit.then])
  refine bodyPost_ret (v := .tuple #[.agg #[.int .i64 0, .int .i64 0, .slice none 0 0], .int .i64 er]) ?_ rfl ⟨rfl, below_setRow (kk.trans (b1.mono kk.size)) (by omega) _⟩
  exact results_row_tmp rfl _ _ (w.heap.size + 2) _ _ _ _ rfl (setRow_heap _ _ _ _ _ _ y2) Tryd.underlying24 rfl (by kernel_rfl) _ rfl
set_option maxHeartbeats 1000000 in
theorem lay_bad2 (a1 h1 a2 h2 px py : Int) (v1 v2 : Value) (fs cs : List C) (w : World) (hT : Txt.Tab w) (hS : SliceAt w v1 fs) (hS2 : SliceAt w v2 cs) (hok : gridErr a1 h1 fs = 0) (hok2 : gridErr a2 h2 cs ≠ 0) :
    Calls Tryd.prog 24 #[.agg #[.int .i64 a1, .int .i64 h1, v1], .agg #[.int .i64 a2, .int .i64 h2, v2], .int .i64 px, .int .i64 py] w fun e w' => e = .returned (.tuple #[.agg #[.int .i64 0, .int .i64 0, .slice none 0 0], .int .i64 (gridErr a2 h2 cs)]) ∧ Below w.heap.size w w' := by
  obtain ⟨_, x1, x2, kk, hsz⟩ := alloc3 w (.cells #[.int .i64 a1, .int .i64 h1, v1] 24) (.cells #[.int .i64 a2, .int .i64 h2, v2] 24) (.cells #[.int .i64 0, .int .i64 0, .slice none 0 0] 24)
  have HK := check_ok a1 h1 v1 fs _ (Tab.next hT kk) (hS.below kk) hok
  have HK2 : Hid (∀ W, Below w.heap.size w W → Calls Tryd.prog 11 #[.agg #[.int .i64 a2, .int .i64 h2, v2]] W fun e w' => e = .returned (.int .i64 (gridErr a2 h2 cs)) ∧ Below W.heap.size W w') := fun W k => check_any a2 h2 v2 cs W (Tab.next hT k) (hS2.below k)
  generalize gridErr a2 h2 cs = er at *
  have ne : (er != 0) = true := by simpa using hok2
  clear hok hok2 hT hS hS2
  go_enter Tryd.func24, Tryd.ntmps24
  go_wp2_with fail
  refine HK.mono ?_
  rintro e W1 ⟨rfl, b1⟩
  have k1 := kk.trans (b1.mono kk.size)
  have y2 := carry x2 b1
  obtain ⟨c0, c1, c2, _⟩ := cells3 (carry x1 b1)
  go_wp2_with fail
  refine (HK2.out _ k1).mono ?_
  rintro e W2 ⟨rfl, b2⟩
  have z2 := carry y2 b2
  go_wp2_with (refine wpList_store_row rfl 24 (.tmp 8) _ rfl (w.heap.size + 2) #[.int .i64 0, .int .i64 0, .slice none 0 0] rfl rfl _ _ z2 (by kernel_rfl) rfl (one3v _ _ _ _ _) ?_)
  (try simp only [Exit.inBlock, Exit.then])
  refine bodyPost_ret (v := .tuple #[.agg #[.int .i64 0, .int .i64 0, .slice none 0 0], .int .i64 er]) ?_ rfl ⟨rfl, below_setRow (k1.trans (b2.mono k1.size)) (by omega) _⟩
  exact results_row_tmp rfl _ _ (w.heap.size + 2) _ _ _ _ rfl (setRow_heap _ _ _ _ _ _ z2) Tryd.underlying24 rfl (by kernel_rfl) _ rfl
set_option maxHeartbeats 4000000 in
theorem lay_good (m p b1 o1 c1 n hh b2 o2 c2 : Nat) (px py : Int) (fs cs : List C) (w : World) (hT : Txt.Tab w) (hC1 : CellsAt w b1 o1 fs) (hC2 : CellsAt w b2 o2 cs) (hok : gridErr m p fs = 0) (hok2 : gridErr n hh cs = 0) (hl1 : fs.length ≤ c1) (hm1 : c1 ≤ 9223372036854775807) (hl2 : cs.length ≤ c2) (hm2 : c2 ≤ 9223372036854775807) :
    Calls Tryd.prog 24 #[.agg #[.int .i64 (m : Int), .int .i64 (p : Int), .slice (some ⟨b1, o1, none⟩) fs.length c1], .agg #[.int .i64 (n : Int), .int .i64 (hh : Int), .slice (some ⟨b2, o2, none⟩) cs.length c2], .int .i64 px, .int .i64 py] w fun e w' => ∃ v, e = .returned (.tuple #[.agg #[.int .i64 (n : Int), .int .i64 (hh : Int), v], .int .i64 0]) ∧ OwnG w' w.heap.size v (layG n hh cs m p fs (nearI px) (nearI py)) ∧ Below w.heap.size w w' := by
  obtain ⟨hL1, q1, q2, q3, q4, q5, hne1⟩ := okRange m p fs hok
  obtain ⟨hL2, r1, r2, r3, r4, r5, hne2⟩ := okRange n hh cs hok2
  have hS1 : SliceAt w (.slice (some ⟨b1, o1, none⟩) fs.length c1) fs := .inr ⟨hne1, b1, o1, c1, rfl, hl1, hm1, hC1⟩
  have hS2 : SliceAt w (.slice (some ⟨b2, o2, none⟩) cs.length c2) cs := .inr ⟨hne2, b2, o2, c2, rfl, hl2, hm2, hC2⟩
  have hb1 := slice_block hC1 hne1
  obtain ⟨x0, x1, x2, kk, hsz⟩ := alloc3 w (.cells #[.int .i64 (m : Int), .int .i64 (p : Int), .slice (some ⟨b1, o1, none⟩) fs.length c1] 24) (.cells #[.int .i64 (n : Int), .int .i64 (hh : Int), .slice (some ⟨b2, o2, none⟩) cs.length c2] 24) (.cells #[.int .i64 0, .int .i64 0, .slice none 0 0] 24)
  have HK := check_ok m p _ fs _ (Tab.next hT kk) (hS1.below kk) hok
  have HT : Hid (∀ W, Below w.heap.size w W → Txt.Tab W) := fun W k => Tab.next hT k
  have HTP : Hid (0 < w.heap.size) := hT.pos
  have HK2 : Hid (∀ W, Below w.heap.size w W → Calls Tryd.prog 11 #[.agg #[.int .i64 (n : Int), .int .i64 (hh : Int), .slice (some ⟨b2, o2, none⟩) cs.length c2]] W fun e w' => e = .returned (.int .i64 0) ∧ Below W.heap.size W w') := fun W k => check_ok n hh _ cs W (Tab.next hT k) (hS2.below k) hok2
  have HC1 : Hid (CellsAt w b1 o1 fs) := hC1
  have HC2 : Hid (CellsAt w b2 o2 cs) := hC2
  have HL1 : Hid (fs.length = m * p) := hL1
  have HL2 : Hid (cs.length = n * hh) := hL2
  have HMC : Hid (∀ y, y < hh → Meant (rowAt n cs y)) := fun y hy => (((gridErr_zero n hh cs).1 hok2).2.2 y hy).1
  have HRF : Hid (∀ y, y < p → RightRow (rowAt m fs y)) := ((gridErr_zero m p fs).1 hok).2.2
  have HGL : Hid ((layG n hh cs m p fs (nearI px) (nearI py)).length = cs.length) := by
    unfold Hid layG
    rw [preF_len n hh cs _ hL2 (layFn_len n m p fs _ _) hh (Nat.le_refl _), hL2, Nat.mul_comm]
  clear hT hS1 hS2 hok hok2 hC1 hC2 hL1 hL2 hne1 hne2
  go_enter Tryd.func24, Tryd.ntmps24
  go_wp2_with fail
  refine HK.mono ?_
  rintro e W1 ⟨rfl, b1'⟩
  have k1 := kk.trans (b1'.mono kk.size)
  have y0 := carry x0 b1'
  have y1 := carry x1 b1'
  have y2 := carry x2 b1'
  obtain ⟨d0, d1, d2, _⟩ := cells3 y1
  go_wp2_with fail
  refine (HK2.out _ k1).mono ?_
  rintro e W2 ⟨rfl, b2'⟩
  have k2 := k1.trans (b2'.mono k1.size)
  have z0 := carry y0 b2'
  have z1 := carry y1 b2'
  have z2 := carry y2 b2'
  clear d0 d1 d2
  obtain ⟨d0, d1, d2, _⟩ := cells3 z1
  go_wp2_with fail
  refine (copyOf_any n hh b2 o2 c2 cs _ (HC2.out.below k2) (by omega)).mono ?_
  rintro e W4 ⟨_, rfl, ⟨g, cap, rest, t, rfl, hgb, hlc, hcm, hgh⟩, b4⟩
  have u0 := carry z0 b4
  have u2 := carry z2 b4
  have k4 := k2.trans (b4.mono k2.size)
  go_wp2_with (refine wpList_store_row rfl 24 (.tmp 12) _ rfl W4.heap.size #[.int .i64 (n : Int), .int .i64 (hh : Int), .slice (some ⟨g, 0, none⟩) cs.length cap] rfl rfl _ _ (heap_alloc_new W4 _) (by kernel_rfl) rfl (one3v _ _ _ _ _) ?_
               obtain ⟨mX, aX⟩ := var_newL W4 24 #[.int .i64 0, .int .i64 0, .slice none 0 0] #[.int .i64 (n : Int), .int .i64 (hh : Int), .slice (some ⟨g, 0, none⟩) cs.length cap]
               generalize ((W4.alloc (.cells #[.int .i64 0, .int .i64 0, .slice none 0 0] 24)).setRow W4.heap.size #[.int .i64 (n : Int), .int .i64 (hh : Int), .slice (some ⟨g, 0, none⟩) cs.length cap]) = X at *
               have kX := k4.trans (aX.mono k4.size)
               have v0 := carry u0 aX
               have v2 := carry u2 aX
               have vg := carry hgh aX)
  have hgN : w.heap.size + 3 ≤ g := by
    have h1 := b1'.size
    have h2 := b2'.size
    have h3 : ((((w.alloc (.cells #[.int .i64 (m : Int), .int .i64 (p : Int), .slice (some ⟨b1, o1, none⟩) fs.length c1] 24)).alloc (.cells #[.int .i64 (n : Int), .int .i64 (hh : Int), .slice (some ⟨b2, o2, none⟩) cs.length c2] 24)).alloc (.cells #[.int .i64 0, .int .i64 0, .slice none 0 0] 24))).heap.size = w.heap.size + 3 := hsz
    omega
  have hgM : g < W4.heap.size := blk_lt hgh
  have hgX : g < X.heap.size := blk_lt vg
  generalize hM : W4.heap.size = M at *
  have KO : Hid (Calls Tryd.prog 48 #[.agg #[.int .i64 (n : Int), .int .i64 (hh : Int), .slice (some ⟨g, 0, none⟩) cs.length cap], .agg #[.int .i64 (m : Int), .int .i64 (p : Int), .slice (some ⟨b1, o1, none⟩) fs.length c1], .int .i64 (nearI px), .int .i64 (nearI py)] X.drew fun e w' => e = .returned (.tuple #[]) ∧ w'.heap[g]? = some (.cells (flat (layG n hh cs m p fs (nearI px) (nearI py)) ++ rest).toArray t (0, 0)) ∧ Apart g [g] X.drew w') :=
    overwrite_any n hh g cap cs rest t m p b1 o1 c1 fs (nearI px) (nearI py) X.drew (HT.out _ kX.drew) (by have := HTP.out; omega) vg HL2.out r1 r2 r4 hlc hcm (HC1.out.below kX.drew) (by omega) HL1.out q1 q2 q4 hl1 hm1 (near_in px).1 (near_in px).2 (near_in py).1 (near_in py).2 HMC.out HRF.out
  obtain ⟨e0, e1, e2, _⟩ := cells3 v0
  obtain ⟨f0, f1, f2, _⟩ := cells3 mX
  have HS0 : Hid ((X.drew.cell? ⟨w.heap.size, 0, none⟩ = some (.int .i64 (m : Int)) ∧ X.drew.cell? ⟨w.heap.size, 1, none⟩ = some (.int .i64 (p : Int)) ∧ X.drew.cell? ⟨w.heap.size, 2, none⟩ = some (.slice (some ⟨b1, o1, none⟩) fs.length c1)) ∧ (X.drew.cell? ⟨M, 0, none⟩ = some (.int .i64 (n : Int)) ∧ X.drew.cell? ⟨M, 1, none⟩ = some (.int .i64 (hh : Int)) ∧ X.drew.cell? ⟨M, 2, none⟩ = some (.slice (some ⟨g, 0, none⟩) cs.length cap))) := ⟨⟨e0, e1, e2⟩, f0, f1, f2⟩
  have HS2 : Hid (∀ W, Apart g [g] X.drew W → (W.cell? ⟨w.heap.size, 0, none⟩ = some (.int .i64 (m : Int)) ∧ W.cell? ⟨w.heap.size, 1, none⟩ = some (.int .i64 (p : Int)) ∧ W.cell? ⟨w.heap.size, 2, none⟩ = some (.slice (some ⟨b1, o1, none⟩) fs.length c1)) ∧ (W.cell? ⟨M, 0, none⟩ = some (.int .i64 (n : Int)) ∧ W.cell? ⟨M, 1, none⟩ = some (.int .i64 (hh : Int)) ∧ W.cell? ⟨M, 2, none⟩ = some (.slice (some ⟨g, 0, none⟩) cs.length cap))) := fun W k => by
    have a := cells3 (k.carry (k := w.heap.size) v0 (by simp; omega))
    have b := cells3 (k.carry (k := M) mX (by simp; omega))
    exact ⟨⟨a.1, a.2.1, a.2.2.1⟩, b.1, b.2.1, b.2.2.1⟩
  clear hgh e0 e1 e2 f0 f1 f2 u0 u2 z0 z1 z2 y0 y1 y2 x0 x1 x2 d0 d1 d2 HK HK2
  go_region_held3 (fun W => (W.cell? ⟨w.heap.size, 0, none⟩ = some (.int .i64 (m : Int)) ∧ W.cell? ⟨w.heap.size, 1, none⟩ = some (.int .i64 (p : Int)) ∧ W.cell? ⟨w.heap.size, 2, none⟩ = some (.slice (some ⟨b1, o1, none⟩) fs.length c1)) ∧ (W.cell? ⟨M, 0, none⟩ = some (.int .i64 (n : Int)) ∧ W.cell? ⟨M, 1, none⟩ = some (.int .i64 (hh : Int)) ∧ W.cell? ⟨M, 2, none⟩ = some (.slice (some ⟨g, 0, none⟩) cs.length cap)))
    (first
      | (exact HS2.out _ ap5)
      | (exact HS0.out))
    (first
      | (go_at_call 44; refine (near_any _ _).mono ?_; rintro e _ ⟨rfl, rfl⟩)
      | (go_at_call 48; refine KO.out.mono ?_; rintro e W5 ⟨rfl, hv5, ap5⟩))
  have w2 := ap5.carry (k := w.heap.size + 2) v2 (by simp; omega)
  have wM := ap5.carry (k := M) mX (by simp; omega)
  have kW : Below w.heap.size w W5 := kX.drew.trans (ap5.1.mono (by omega))
  go_wp2_with (first
    | (refine wpList_load_row rfl 24 _ rfl M rfl _ _ _ _ wM Tryd.underlying24 rfl (by kernel_rfl) ?_)
    | (refine wpList_store_row rfl 24 (.tmp 8) _ rfl (w.heap.size + 2) #[.int .i64 (n : Int), .int .i64 (hh : Int), .slice (some ⟨g, 0, none⟩) cs.length cap] rfl rfl _ _ w2 (by kernel_rfl) rfl (one3v _ _ _ _ _) ?_))
  (try simp only [Exit.inBlock, Exit.then])
  refine bodyPost_ret (v := .tuple #[.agg #[.int .i64 (n : Int), .int .i64 (hh : Int), .slice (some ⟨g, 0, none⟩) cs.length cap], .int .i64 0]) ?_ rfl ⟨_, rfl, ⟨g, cap, rest, t, by rw [HGL.out], by omega, by rw [HGL.out]; exact hlc, hcm, ?_⟩, below_setRow kW (by omega) _⟩
  · exact results_row_tmp rfl _ _ (w.heap.size + 2) _ _ _ _ rfl (setRow_heap _ _ _ _ _ _ w2) Tryd.underlying24 rfl (by kernel_rfl) _ rfl
  · rw [setRow_other _ _ _ _ (by omega)]
    exact hv5
end Grd
end Go.Proofs.YtinhmklpnkikgaaDoor

/- The reference's MendRow. -/
namespace Go.Proofs.YtinhmklpnkikgaaDoor
open Go.ChangeShapes Go.WideShapes Go.ChangeAt Go.RowKit
namespace Grd
open Txt (wd)
/-- The cells below i are mended, the others not yet. -/
def mendPre (cs : List C) (i : Nat) : List C := (mendM cs).take i ++ cs.drop i
theorem mendPre_len (cs : List C) (i : Nat) (h : i ≤ cs.length) : (mendPre cs i).length = cs.length := by
  unfold mendPre; rw [List.length_append, List.length_take, List.length_drop, mendM_len]; omega
theorem mendPre_at (cs : List C) (i j : Nat) (hi : i ≤ cs.length) (h : i ≤ j) : (mendPre cs i).getD j z0 = cs.getD j z0 := by
  unfold mendPre
  simp only [List.getD]
  rw [List.getElem?_append_right (by rw [List.length_take, mendM_len]; omega), List.length_take, mendM_len, Nat.min_eq_left hi, List.getElem?_drop, show i + (j - i) = j by omega]
theorem mendPre_same (cs : List C) (i : Nat) (h : i < cs.length) (hl : loose cs i = false) : mendPre cs (i + 1) = mendPre cs i := by
  unfold mendPre
  have e1 : (mendM cs).take (i + 1) = (mendM cs).take i ++ [cs.getD i z0] := by
    rw [List.take_add_one]
    congr 1
    have := mendM_at cs i h
    rw [hl] at this
    simp only [List.getD] at this
    have hlt : i < (mendM cs).length := by rw [mendM_len]; exact h
    rw [List.getElem?_eq_getElem hlt] at this ⊢
    simp only [Option.getD_some] at this
    rw [this]
    rfl
  have e2 : cs.drop i = cs.getD i z0 :: cs.drop (i + 1) := by
    have : cs.getD i z0 = cs[i] := by simp [List.getD, h]
    rw [this, List.getElem_cons_drop]
  rw [e1, e2, List.append_assoc]
  rfl
theorem mendPre_set (cs : List C) (i : Nat) (h : i < cs.length) (hl : loose cs i = true) : mendPre cs (i + 1) = setR (mendPre cs i) i := by
  have hle := mendPre_len cs i (by omega)
  have hle2 := mendPre_len cs (i + 1) (by omega)
  refine ext_getD _ _ (by unfold setR; rw [List.length_set, hle, hle2]) fun j hj => ?_
  rw [hle2] at hj
  unfold setR
  rw [getD_set _ _ _ _ (by rw [hle]; exact h), mendPre_at cs i i (by omega) (Nat.le_refl _)]
  by_cases hji : j = i
  · subst hji
    rw [if_pos rfl]
    unfold mendPre
    have hlt : j < (mendM cs).length := by rw [mendM_len]; exact h
    have := mendM_at cs j h
    rw [if_pos hl] at this
    rw [← this]
    simp only [List.getD]
    rw [List.getElem?_append_left (by rw [List.length_take]; omega), List.getElem?_take]
    simp
  · rw [if_neg hji]
    by_cases hlt : i < j
    · rw [mendPre_at cs (i + 1) j (by omega) (by omega), mendPre_at cs i j (by omega) (by omega)]
    · unfold mendPre
      simp only [List.getD]
      rw [List.getElem?_append_left (by rw [List.length_take, mendM_len]; omega), List.getElem?_append_left (by rw [List.length_take, mendM_len]; omega), List.getElem?_take, List.getElem?_take, if_pos (by omega), if_pos (by omega)]
theorem mendPre_zero (cs : List C) : mendPre cs 0 = cs := by simp [mendPre]
theorem mendPre_all (cs : List C) (i : Nat) (h : cs.length ≤ i) : mendPre cs i = mendL cs := by
  unfold mendPre
  rw [mendL_eq, List.take_of_length_le (by rw [mendM_len]; exact h), List.drop_of_length_le h, List.append_nil]
/-- The cell at i is the second half of the rune before it. -/
def second (cs : List C) (i : Nat) : Bool := decide (0 < i ∧ i < cs.length ∧ (cs.getD i z0).1 = 0 ∧ wd (cs.getD (i - 1) z0).1 = 2)
theorem loose_wide (cs : List C) (i : Nat) (hw : wd (cs.getD i z0).1 = 2) : loose cs i = (decide (i + 1 = cs.length) || decide ((cs.getD (i + 1) z0).1 ≠ 0)) := by
  have hn : ¬ (cs.getD i z0).1 = 0 := by intro h; rw [h, wd0] at hw; exact absurd hw (by decide)
  unfold loose
  rw [if_neg hn, hw]
  simp
theorem loose_none (cs : List C) (i : Nat) (hi : i < cs.length) (hr : (cs.getD i z0).1 = 0) (hs : second cs i = false) : loose cs i = true := by
  unfold loose
  unfold second at hs
  rw [if_pos hr]
  rw [decide_eq_false_iff_not] at hs
  by_cases h0 : i = 0
  · simp [h0]
  · have : wd (cs.getD (i - 1) z0).1 ≠ 2 := fun h => hs ⟨by omega, hi, hr, h⟩
    simp [this, -List.getD_eq_getElem?_getD]
theorem loose_narrow (cs : List C) (i : Nat) (hr : ¬ (cs.getD i z0).1 = 0) (hw : ¬ wd (cs.getD i z0).1 = 2) : loose cs i = false := by
  unfold loose
  rw [if_neg hr]
  simp [hw, -List.getD_eq_getElem?_getD]
end Grd
end Go.Proofs.YtinhmklpnkikgaaDoor

/- The walk of the reference's MendRow. -/
namespace Go.Proofs.YtinhmklpnkikgaaDoor
open Go.ChangeShapes Go.WideShapes Go.ChangeAt Go.RowKit
namespace Grd
open Txt (wd)
/-- A slice that reads as a row, alone in the block g. -/
def RowB (w : World) (g : Nat) (v : Value) (row : List C) : Prop := ∃ (cap : Nat) (rest : List Value), v = .slice (some ⟨g, 0, none⟩) row.length cap ∧ row.length ≤ cap ∧ cap ≤ 9223372036854775807 ∧ w.heap[g]? = some (.cells (flat row ++ rest).toArray 40 (0, 0))
theorem RowB.below {w w' : World} {g : Nat} {v : Value} {row : List C} (h : RowB w g v row) (hb : Below w.heap.size w w') : RowB w' g v row := by
  obtain ⟨cap, rest, hv, h1, h2, h3⟩ := h
  exact ⟨cap, rest, hv, h1, h2, carry h3 hb⟩
theorem RowB.cells {w : World} {g : Nat} {v : Value} {row : List C} (h : RowB w g v row) : CellsAt w g 0 row := by
  obtain ⟨cap, rest, _, _, _, h3⟩ := h
  exact cellsAt_flat h3
theorem RowB.own {w : World} {g base : Nat} {v : Value} {row : List C} (h : RowB w g v row) (hb : base ≤ g) : OwnG w base v row := by
  obtain ⟨cap, rest, hv, h1, h2, h3⟩ := h
  exact ⟨g, cap, rest, ⟨_, rfl⟩, hv, hb, h1, h2, h3⟩
theorem rowB_of_row {w : World} {base : Nat} {v : Value} {cs : List C} (h : w.ownsRow base 40 4 v cs.length (flat cs)) (hn : v ≠ .slice none 0 0) : ∃ g, base ≤ g ∧ RowB w g v cs := by
  obtain ⟨_, h | ⟨g, cap, cur, hv, hg, hh, hc, hm, hs, htk⟩⟩ := h
  · exact absurd h.1 hn
  · refine ⟨g, hg, cap, cur.toList.drop (cs.length * 4), hv, hc, by unfold maxLen at hm; omega, ?_⟩
    rw [hh, ← htk, List.take_append_drop]
set_option maxHeartbeats 1000000 in
theorem clone_row (b o c : Nat) (cs : List C) (w : World) (hC : CellsAt w b o cs) (hbig : cs.length * 32 ≤ 140737488355328) :
    Calls Tryd.prog 39 #[.slice (some ⟨b, o, none⟩) cs.length c] w fun e w' => ∃ v' g, e = .returned v' ∧ w.heap.size ≤ g ∧ RowB w' g v' cs ∧ Below w.heap.size w w' := by
  obtain ⟨i0, hi, hzz⟩ := Option.map_eq_some_iff.1 info_cell
  simp only [Prod.mk.injEq] at hzz
  obtain ⟨hz0, hz1, hz2⟩ := hzz
  have kb : Below w.heap.size w (w.alloc (.cells #[] 40)) := (Below.refl _ _).alloc (Nat.le_refl _) _
  have HS : Hid (∀ j u, (flat cs)[j]? = some u → (w.alloc (.cells #[] 40)).cell? ((⟨b, o, none⟩ : Addr).add j) = some u) := cellsAt_src (hC.below kb)
  have HF : Hid ((flat cs).length = cs.length * 4) := flat_len cs
  have HO : Hid (∀ u ∈ flat cs, u.oneCell' = true) := flat_one cs
  have qn : ∀ (w : World) (a : Option Addr) (n c n' c' : Nat), (binOp .eql 22 (.slice a n c) (.slice none n' c')).run Tryd.prog w = .ok (.bool a.isNone) w := fun w a n c n' c' => Lib.run_eql_slice_nil w _ _ a n c n' c' und_cells
  clear hC
  go_enter Tryd.func39, Tryd.ntmps39
  go_wp2_with (at_builtin; refine wpList_append_own _ rfl _ _ 22 rfl w.heap.size 40 i0 (.agg #[.int .i32 0, .int .i64 0, .int .i64 0, .int .i64 0]) 4 32 und_cells hi hz0 hz1 hz2 rfl (by decide) _ _ _ rfl (World.ownsRow_made w #[] 0 (Nat.le_refl _) (Nat.zero_le _) rfl) ⟨b, o, none⟩ cs.length c (flat cs) rfl HF.out HS.out HO.out ?qc4 ?qc5 ?qc6 ?_)
  case qc4 => unfold maxLen; omega
  case qc5 => omega
  case qc6 => simp
  intro v' w1 hown hgrow hnil
  obtain ⟨g, hg, hrow⟩ := rowB_of_row (by simpa using hown) hnil
  go_wp2_with fail
  go_ret
  exact ⟨v', g, rfl, hg, hrow, ((Below.refl _ w).alloc (Nat.le_refl _) _).grown hgrow (by simp) (by intro k hk; simp [Value.ownBlock] at hk; omega)⟩
set_option maxHeartbeats 4000000 in
theorem mendRow_any (b o c : Nat) (cs : List C) (w : World) (hC : CellsAt w b o cs) (hn : cs.length ≤ 1000000) :
    Calls Tryd.prog 29 #[.slice (some ⟨b, o, none⟩) cs.length c] w fun e w' => ∃ v' g, e = .returned v' ∧ w.heap.size ≤ g ∧ RowB w' g v' (mendL cs) ∧ Below w.heap.size w w' := by
  have HC := clone_row b o c cs w hC (by omega)
  clear hC
  generalize hl : cs.length = L at *
  have HL : Hid (cs.length = L) := hl
  clear hl
  go_enter Tryd.func29, Tryd.ntmps29
  go_wp2_with (go_at_call 39; refine HC.mono ?_; rintro e W1 ⟨_, g, rfl, hg, ⟨cap, rest, rfl, hlc, hcm, hgh⟩, b1⟩)
  rw [HL.out] at hlc
  have hgW : g < W1.heap.size := blk_lt hgh
  have ap0 : Apart w.heap.size [g] w W1 := .of b1 (Nat.le_refl _)
  have hl0 : cs.length = L := HL.out
  simp only [hl0]
  clear hl0 HC
  go_loopg [4] L (fun q i wr => ∃ k : Nat, i = .int .i64 (k : Int) ∧ k ≤ L ∧ L - k ≤ q ∧ second cs k = false ∧ Apart w.heap.size [g] w wr ∧ wr.heap[g]? = some (.cells (flat (mendPre cs k) ++ rest).toArray 40 (0, 0)))
  case atStart => exact ⟨0, rfl, by omega, by omega, by simp [second], ap0, by rw [mendPre_zero]; exact hgh⟩
  case round =>
    clear hgh ap0 b1
    obtain ⟨k, rfl, hk, hq, hsec, hap, hv⟩ := hrel
    by_cases hlt : k < L
    · have lt1 : ((k : Int) < (L : Int)) := by omega
      have hpl : (mendPre cs k).length = L := by rw [mendPre_len cs k (by rw [HL.out]; omega), HL.out]
      have hC : CellsAt wr g 0 (mendPre cs k) := cellsAt_flat hv
      have c0 := (hC k (by rw [hpl]; exact hlt)).1
      rw [mendPre_at cs k k (by rw [HL.out]; omega) (Nat.le_refl _), Nat.zero_add] at c0
      have c1 : k + 1 < L → wr.cell? ⟨g, (k + 1) * 4, none⟩ = some (.int .i32 (cs.getD (k + 1) z0).1) := fun h => by
        have := (hC (k + 1) (by rw [hpl]; exact h)).1
        rwa [mendPre_at cs k (k + 1) (by rw [HL.out]; omega) (by omega), Nat.zero_add] at this
      have hNW : w.heap.size ≤ wr.heap.size := hap.1.size
      clear hC
      by_cases hw2 : wd (cs.getD k z0).1 = 2
      · by_cases hk1 : k + 1 < L
        · have c1 := c1 hk1
          by_cases hz : (cs.getD (k + 1) z0).1 = 0
          · have HE : Hid (mendPre cs (k + 2) = mendPre cs k) := by
              have l0 : loose cs k = false := by
                rw [loose_wide cs k hw2, hz, HL.out]
                simp
                omega
              have l1 : loose cs (k + 1) = false := by
                unfold loose
                rw [if_pos hz, Nat.add_sub_cancel]
                simp [hw2, -List.getD_eq_getElem?_getD]
              unfold Hid
              rw [mendPre_same cs (k + 1) (by rw [HL.out]; exact hk1) l1, mendPre_same cs k (by rw [HL.out]; exact hlt) l0]
            have HS2 : Hid (second cs (k + 2) = false) := by
              unfold Hid second
              rw [decide_eq_false_iff_not]
              rintro ⟨_, _, _, h2⟩
              rw [show k + 2 - 1 = k + 1 by omega, hz, wd0] at h2
              exact absurd h2 (by decide)
            have HW : Hid (wd (cs.getD k z0).1 = 2) := hw2
            have lt2 : ((k : Int) + 1 < (L : Int)) := by omega
            rw [hz] at c1
            clear hsec hw2 hz hpl
            generalize (cs.getD k z0).1 = r0 at *
            go_wp2_with (go_at_call 19; refine (widthOf_to r0 _ _ HW.out).mono ?_; rintro e W2 ⟨rfl, b2⟩; have d0 := cell_keep b2 c0; have d1 := cell_keep b2 c1; have hv2 := carry hv b2; have hfz : W2.frozen? ⟨g, k * 4, none⟩ = false := frozen_of hv2 _)
            go_roundg (L - (k + 2))
            case measure => omega
            case rel => exact ⟨k + 2, by first | rfl | (simp; omega), by omega, by omega, HS2.out, hap.step b2 hNW, by rw [HE.out]; exact hv2⟩
          · have hlo : loose cs k = true := by
              rw [loose_wide cs k hw2]
              simp [hz, -List.getD_eq_getElem?_getD]
            have HE : Hid (flat (mendPre cs (k + 1)) ++ rest = (flat (mendPre cs k) ++ rest).set (k * 4) (.int .i32 32)) := by
              unfold Hid
              rw [mendPre_set cs k (by rw [HL.out]; exact hlt) hlo, List.set_append_left _ _ (by rw [flat_len, hpl]; omega), flat_set _ k (by rw [hpl]; exact hlt)]
            have HS1 : Hid (second cs (k + 1) = false) := by
              unfold Hid second
              rw [decide_eq_false_iff_not]
              rintro ⟨_, _, h1, h2⟩
              rw [Nat.add_sub_cancel] at h2
              exact hz h1
            have HW : Hid (wd (cs.getD k z0).1 = 2) := hw2
            have lt2 : ((k : Int) + 1 < (L : Int)) := by omega
            have ne : ((cs.getD (k + 1) z0).1 == 0) = false := by simpa [-List.getD_eq_getElem?_getD] using hz
            clear hsec hw2 hz hpl hlo
            generalize (cs.getD k z0).1 = r0 at *
            generalize (cs.getD (k + 1) z0).1 = r1 at *
            go_wp2_with (go_at_call 19; refine (widthOf_to r0 _ _ HW.out).mono ?_; rintro e W2 ⟨rfl, b2⟩; have d0 := cell_keep b2 c0; have d1 := cell_keep b2 c1; have hv2 := carry hv b2; have hfz : W2.frozen? ⟨g, k * 4, none⟩ = false := frozen_of hv2 _)
            go_roundg (L - (k + 1))
            case measure => omega
            case rel =>
              refine ⟨k + 1, rfl, by omega, by omega, HS1.out, (hap.step b2 hNW).setCell g _ _ (by simp) hg, ?_⟩
              rw [HE.out]
              have := heap_setCell_same W2 g (k * 4) _ _ (.int .i32 32) hv2
              simpa using this
        · have hlo : loose cs k = true := by
            rw [loose_wide cs k hw2, HL.out]
            simp
            omega
          have HE : Hid (flat (mendPre cs (k + 1)) ++ rest = (flat (mendPre cs k) ++ rest).set (k * 4) (.int .i32 32)) := by
            unfold Hid
            rw [mendPre_set cs k (by rw [HL.out]; exact hlt) hlo, List.set_append_left _ _ (by rw [flat_len, hpl]; omega), flat_set _ k (by rw [hpl]; exact hlt)]
          have HS1 : Hid (second cs (k + 1) = false) := by
            unfold Hid second
            rw [decide_eq_false_iff_not]
            rintro ⟨_, h0, _⟩
            rw [HL.out] at h0
            omega
          have HW : Hid (wd (cs.getD k z0).1 = 2) := hw2
          have lt2 : ¬ ((k : Int) + 1 < (L : Int)) := by omega
          have ld2 : decide ((k : Int) + 1 < (L : Int)) = false := decide_eq_false lt2
          clear hsec hw2 hpl hlo c1
          generalize (cs.getD k z0).1 = r0 at *
          go_wp2_with (go_at_call 19; refine (widthOf_to r0 _ _ HW.out).mono ?_; rintro e W2 ⟨rfl, b2⟩; have d0 := cell_keep b2 c0; have hv2 := carry hv b2; have hfz : W2.frozen? ⟨g, k * 4, none⟩ = false := frozen_of hv2 _)
          go_roundg (L - (k + 1))
          case measure => omega
          case rel =>
            refine ⟨k + 1, rfl, by omega, by omega, HS1.out, (hap.step b2 hNW).setCell g _ _ (by simp) hg, ?_⟩
            rw [HE.out]
            have := heap_setCell_same W2 g (k * 4) _ _ (.int .i32 32) hv2
            simpa using this
      · by_cases hz : (cs.getD k z0).1 = 0
        · have hlo : loose cs k = true := loose_none cs k (by rw [HL.out]; exact hlt) hz hsec
          have HE : Hid (flat (mendPre cs (k + 1)) ++ rest = (flat (mendPre cs k) ++ rest).set (k * 4) (.int .i32 32)) := by
            unfold Hid
            rw [mendPre_set cs k (by rw [HL.out]; exact hlt) hlo, List.set_append_left _ _ (by rw [flat_len, hpl]; omega), flat_set _ k (by rw [hpl]; exact hlt)]
          have HS1 : Hid (second cs (k + 1) = false) := by
            unfold Hid second
            rw [decide_eq_false_iff_not]
            rintro ⟨_, _, h1, h2⟩
            rw [Nat.add_sub_cancel] at h2
            exact hw2 h2
          have HW : Hid (wd (cs.getD k z0).1 = 0) := by unfold Hid; rw [hz, wd0]
          rw [hz] at c0 HW
          clear hsec hw2 hz hpl hlo c1
          obtain ⟨r0, hr0⟩ : ∃ q : Int, q = 0 := ⟨0, rfl⟩
          rw [← hr0] at c0 HW
          subst hr0
          go_wp2_with (go_at_call 19; refine (widthOf_to 0 _ _ HW.out).mono ?_; rintro e W2 ⟨rfl, b2⟩; have d0 := cell_keep b2 c0; have hv2 := carry hv b2; have hfz : W2.frozen? ⟨g, k * 4, none⟩ = false := frozen_of hv2 _)
          go_roundg (L - (k + 1))
          case measure => omega
          case rel =>
            refine ⟨k + 1, rfl, by omega, by omega, HS1.out, (hap.step b2 hNW).setCell g _ _ (by simp) hg, ?_⟩
            rw [HE.out]
            have := heap_setCell_same W2 g (k * 4) _ _ (.int .i32 32) hv2
            simpa using this
        · have hlo : loose cs k = false := loose_narrow cs k hz hw2
          have HE : Hid (mendPre cs (k + 1) = mendPre cs k) := mendPre_same cs k (by rw [HL.out]; exact hlt) hlo
          have HS1 : Hid (second cs (k + 1) = false) := by
            unfold Hid second
            rw [decide_eq_false_iff_not]
            rintro ⟨_, _, h1, h2⟩
            rw [Nat.add_sub_cancel] at h2
            exact hw2 h2
          obtain ⟨wv, hwv⟩ : ∃ q, wd (cs.getD k z0).1 = q := ⟨_, rfl⟩
          have HW : Hid (wd (cs.getD k z0).1 = wv) := hwv
          have n2 : (wv == 2) = false := by rw [← hwv]; simpa [-List.getD_eq_getElem?_getD] using hw2
          have nz : ((cs.getD k z0).1 == 0) = false := by simpa [-List.getD_eq_getElem?_getD] using hz
          clear hsec hw2 hz hpl hlo c1 hwv
          generalize (cs.getD k z0).1 = r0 at *
          go_wp2_with (go_at_call 19; refine (widthOf_to r0 _ _ HW.out).mono ?_; rintro e W2 ⟨rfl, b2⟩; have d0 := cell_keep b2 c0; have hv2 := carry hv b2; have hfz : W2.frozen? ⟨g, k * 4, none⟩ = false := frozen_of hv2 _)
          go_roundg (L - (k + 1))
          case measure => omega
          case rel => exact ⟨k + 1, rfl, by omega, by omega, HS1.out, hap.step b2 hNW, by rw [HE.out]; exact hv2⟩
    · have lt1 : ¬ ((k : Int) < (L : Int)) := by omega
      have hml : (mendL cs).length = L := by rw [mendL_len, HL.out]
      rw [mendPre_all cs k (by rw [HL.out]; omega)] at hv
      go_wp2_with fail
      go_ret
      exact ⟨_, rfl, g, hg, ⟨cap, rest, by rw [hml]; rfl, by rw [hml]; exact hlc, hcm, hv⟩, hap.1⟩
end Grd
end Go.Proofs.YtinhmklpnkikgaaDoor
