/- The walk of grid.Lines: a right grid. -/
import Derived.Test.YtinhmklpnkikgabDoorGridLines
namespace Go.Proofs.YtinhmklpnkikgabDoor
open Go.ChangeShapes Go.WideShapes Go.ChangeAt Go.RowKit
namespace Grd
open Txt (wd)
open Sty (isSt)
set_option maxHeartbeats 8000000 in
set_option maxRecDepth 100000 in
theorem lines_good (n hh b o cx : Nat) (cs : List C) (w : World) (hT : Txt.Tab w) (hC : CellsAt w b o cs) (hok : gridErr n hh cs = 0) (hc : cs.length ≤ cx) (hm : cx ≤ 9223372036854775807) :
    Calls Tryd.prog 15 #[.agg #[.int .i64 (n : Int), .int .i64 (hh : Int), .slice (some ⟨b, o, none⟩) cs.length cx]] w fun e w' => ∃ v, e = .returned (.tuple #[v, .int .i64 0]) ∧ OwnS w' w.heap.size v (linesL n hh cs) ∧ Below w.heap.size w w' := by
  obtain ⟨hsize, hL, hrows⟩ := (gridErr_zero n hh cs).1 hok
  have ⟨p0, p1, p2, p3, p4, p5⟩ := prod_in n hh hsize
  have hne : cs ≠ [] := by
    intro h
    rw [h, List.length_nil] at hL
    have : 0 < n * hh := Nat.mul_pos (by omega) (by omega)
    omega
  have hS : SliceAt w (.slice (some ⟨b, o, none⟩) cs.length cx) cs := .inr ⟨hne, b, o, cx, rfl, hc, hm, hC⟩
  have HIN : Hid (∀ y j, y < hh → j < n → 0 ≤ ((rowAt n cs y).getD j z0).1 ∧ ((rowAt n cs y).getD j z0).1 ≤ 1114111) := fun y j hy hj => cellR_in n hh cs hok y j hy hj
  have HC : Hid (CellsAt w b o cs) := hC
  have HL : Hid (cs.length = n * hh) := hL
  have kk : Below w.heap.size w (w.alloc (.cells #[.int .i64 (n : Int), .int .i64 (hh : Int), .slice (some ⟨b, o, none⟩) cs.length cx] 24)) := (Below.refl _ _).alloc (Nat.le_refl _) _
  have HK' : Hid (Calls Tryd.prog 7 #[.agg #[.int .i64 (n : Int), .int .i64 (hh : Int), .slice (some ⟨b, o, none⟩) cs.length cx]] (w.alloc (.cells #[.int .i64 (n : Int), .int .i64 (hh : Int), .slice (some ⟨b, o, none⟩) cs.length cx] 24)) fun e w' => e = .returned (.int .i64 0) ∧ Below (w.alloc (.cells #[.int .i64 (n : Int), .int .i64 (hh : Int), .slice (some ⟨b, o, none⟩) cs.length cx] 24)).heap.size (w.alloc (.cells #[.int .i64 (n : Int), .int .i64 (hh : Int), .slice (some ⟨b, o, none⟩) cs.length cx] 24)) w') := check_ok n hh _ cs _ (Tab.next hT kk) (hS.below kk) hok
  have hmk := make_strs hh (by omega)
  obtain ⟨A, hA⟩ : ∃ A, A = madeCells #[.string ByteArray.empty] (hh * 1) := ⟨_, rfl⟩
  have hAs : A.size = hh := by rw [hA, size_madeCells]; omega
  rw [← hA] at hmk
  have x0 := heap_alloc_new w (.cells #[.int .i64 (n : Int), .int .i64 (hh : Int), .slice (some ⟨b, o, none⟩) cs.length cx] 24)
  clear hA hT hS hok hC hne hrows hL p0 p1 hsize
  go_enter Tryd.func15, Tryd.ntmps15
  go_wp2_with (go_at_call 7; refine HK'.out.mono ?_; rintro e W1 ⟨rfl, b1⟩; have y0 := carry x0 b1; have ⟨e0, e1, e2, _⟩ := cells3 y0)
  have k1 := kk.trans (b1.mono kk.size)
  have yN : w.heap.size < W1.heap.size := blk_lt y0
  have z0 : (W1.alloc (.cells A 9)).heap[w.heap.size]? = _ := (Below.heap_alloc _ _ _ yN).trans y0
  have zG : (W1.alloc (.cells A 9)).heap[W1.heap.size]? = some (.cells A.toList.toArray 9 (0, 0)) := by simpa using heap_alloc_new W1 (.cells A 9)
  have kX : Below w.heap.size w (W1.alloc (.cells A 9)) := k1.alloc k1.size _
  have hAl : A.toList.length = hh := by simpa using hAs
  generalize (W1.alloc (.cells A 9)) = X at *
  generalize hG : W1.heap.size = G at *
  have HAL : Hid (A.toList.length = hh) := hAl
  clear b1 y0 e0 e1 e2 kk x0 HK' hmk k1 hAs hAl hG
  go_loopg [20] hh (fun q y wr => ∃ (k : Nat) (Ls : List Value), y = .int .i64 (k : Int) ∧ k ≤ hh ∧ hh - k ≤ q ∧ Below w.heap.size w wr ∧ wr.heap[w.heap.size]? = some (.cells #[.int .i64 (n : Int), .int .i64 (hh : Int), .slice (some ⟨b, o, none⟩) cs.length cx] 24 (0, 0)) ∧ wr.heap[G]? = some (.cells Ls.toArray 9 (0, 0)) ∧ Ls.length = hh ∧ ∀ i, i < k → Ls[i]? = some (.string (lineB (rowAt n cs i))))
  case atStart => exact ⟨0, A.toList, rfl, by omega, by omega, kX, z0, zG, HAL.out, fun i hi => by omega⟩
  case round =>
    clear z0 zG kX HAL
    obtain ⟨k, Ls, rfl, hk, hq, kW, v0, vG, hLs, hdone⟩ := hrel
    have HLS : Hid (Ls.length = hh) := hLs
    have HD : Hid (∀ i, i < k → Ls[i]? = some (.string (lineB (rowAt n cs i)))) := hdone
    clear hLs hdone
    by_cases hlt : k < hh
    · have lt1 : ((k : Int) < (hh : Int)) := by omega
      have hrl := row_len n hh cs k HL.out hlt
      obtain ⟨c0, c1, c2, _⟩ := cells3 v0
      have hw0 : Below wr.heap.size wr (wr.alloc (.cells #[.pointer none, .slice none 0 0] 67)) := (Below.refl _ _).alloc (Nat.le_refl _) _
      have HB0 : Hid (Lib.IsBuilderF 67 5 wr.heap.size wr.heap.size (Lib.byteCells []) (wr.alloc (.cells #[.pointer none, .slice none 0 0] 67))) := Lib.IsBuilderF.of (Lib.fresh_isBuilder 67 5 wr)
      have d0 := carry v0 hw0
      obtain ⟨f0, f1, f2, _⟩ := cells3 d0
      have HR : Hid (Calls Tryd.prog 18 #[.agg #[.int .i64 (n : Int), .int .i64 (hh : Int), .slice (some ⟨b, o, none⟩) cs.length cx], .int .i64 (k : Int)] (wr.alloc (.cells #[.pointer none, .slice none 0 0] 67)) fun e w' => e = .returned (.slice (some ⟨b, o + k * n * 4, none⟩) n (cx - k * n)) ∧ Below (wr.alloc (.cells #[.pointer none, .slice none 0 0] 67)).heap.size (wr.alloc (.cells #[.pointer none, .slice none 0 0] 67)) w') := rowOf_any b o cs.length cx n k hh _ (by omega) (row_fits n hh _ k HL.out hlt) hc hm
      have HCR : Hid (∀ W, Below w.heap.size w W → CellsAt W b (o + k * n * 4) (rowAt n cs k)) := fun W kW => (HC.out.below kW).part (k * n) n (by have := row_fits n hh _ k HL.out hlt; rw [Nat.add_mul, Nat.one_mul] at this; omega)
      have HINR : Hid (∀ j, j < n → 0 ≤ ((rowAt n cs k).getD j Grd.z0).1 ∧ ((rowAt n cs k).getD j Grd.z0).1 ≤ 1114111) := fun j hj => HIN.out k j hlt hj
      have HRL : Hid ((rowAt n cs k).length = n) := hrl
      clear hrl
      go_wp2_with (go_at_call 18; refine HR.out.mono ?_; rintro e W5 ⟨rfl, b5⟩)
      have kB : Below wr.heap.size wr W5 := hw0.trans (b5.mono hw0.size)
      have HB1 := builder_below HB0.out b5
      clear HR b5 HB0 f0 f1 f2 d0 hw0 c0 c1 c2
      generalize wr = V at *
      have hNB : w.heap.size ≤ V.heap.size := kW.size
      generalize hB0 : V.heap.size = B0 at *
      go_loopg [27] n (fun q xx wv => ∃ (j : Nat) (acc : List UInt8), xx = .int .i64 (j : Int) ∧ j ≤ n ∧ n - j ≤ q ∧ Below B0 V wv ∧ Lib.IsBuilderF 67 5 B0 B0 (Lib.byteCells acc) wv ∧ acc = rowBytes ((rowAt n cs k).take j) ∧ acc.length ≤ 4 * j)
      case atStart => exact ⟨0, [], rfl, by omega, by omega, kB, HB1, rfl, by simp⟩
      case round =>
        clear kB HB1
        obtain ⟨j, acc, rfl, hj, hq2, hb, hI, hacc, hal⟩ := hrel
        have HACC : Hid (acc = rowBytes ((rowAt n cs k).take j)) := hacc
        clear hacc
        have hBW : B0 ≤ wr.heap.size := by rw [← hB0]; exact hb.size
        have kN : Below w.heap.size w wr := kW.trans (hb.mono hNB)
        by_cases hlt2 : j < n
        · have lt2 : ((j : Int) < (n : Int)) := by omega
          have hrg := range_cell (HCR.out wr kN) j (by rw [HRL.out]; exact hlt2)
          have hin := HINR.out j hlt2
          have HNX : Hid (rowBytes ((rowAt n cs k).take (j + 1)) = rowBytes ((rowAt n cs k).take j) ++ (if ((rowAt n cs k).getD j Grd.z0).1 = 0 then [] else Lib.encodeRune ((rowAt n cs k).getD j Grd.z0).1)) := rowBytes_next _ j (by rw [HRL.out]; exact hlt2)
          rcases hce : (rowAt n cs k).getD j Grd.z0 with ⟨r, f, bk, x⟩
          rw [hce] at hrg hin HNX
          dsimp only at hin HNX
          have HRG : Hid (wr.rangeAt b (o + k * n * 4 + j * 4) (words (r, f, bk, x))) := hrg
          have HI0 : Hid (Lib.IsBuilderF 67 5 B0 B0 (Lib.byteCells acc) wr) := hI
          clear hrg hce hI
          by_cases hr0 : r = 0
          · have ne : (r != 0) = false := by simp [hr0]
            have HN2 : Hid (acc = rowBytes ((rowAt n cs k).take (j + 1))) := by
              unfold Hid
              rw [HNX.out, if_pos hr0, List.append_nil]
              exact HACC.out
            clear HNX HACC hin hr0
            go_wp2_with (first
            | (refine wpList_load_mid rfl 30 (.tmp 29) rfl b (o + k * n * 4 + j * 4) rfl (words (r, f, bk, x)) _ HRG.out Tryd.underlying30 rfl cell4_size ?_)
            | (refine wpList_store_row rfl 30 (.tmp 9) _ rfl wr.heap.size #[.int .i32 r, .int .i64 f, .int .i64 bk, .int .i64 x] rfl rfl _ _ (heap_alloc_new wr _) cell4_size rfl (words_one (r, f, bk, x)) ?_
               have hn0 := setRow_heap _ _ _ #[.int .i32 r, .int .i64 f, .int .i64 bk, .int .i64 x] _ _ (heap_alloc_new wr (.cells #[.int .i32 0, .int .i64 0, .int .i64 0, .int .i64 0] 30))
               have kZ : Below wr.heap.size wr ((wr.alloc (.cells #[.int .i32 0, .int .i64 0, .int .i64 0, .int .i64 0] 30)).setRow wr.heap.size #[.int .i32 r, .int .i64 f, .int .i64 bk, .int .i64 x]) := below_setRow ((Below.refl _ _).alloc (Nat.le_refl _) _) (Nat.le_refl _) _
               generalize ((wr.alloc (.cells #[.int .i32 0, .int .i64 0, .int .i64 0, .int .i64 0] 30)).setRow wr.heap.size #[.int .i32 r, .int .i64 f, .int .i64 bk, .int .i64 x]) = Z at *
               obtain ⟨g0, g1, g2, g3⟩ := cells4 hn0))
            go_roundg (n - (j + 1))
            case measure => omega
            case rel => exact ⟨j + 1, acc, rfl, by omega, by omega, hb.trans (kZ.mono hBW), builder_below HI0.out kZ, HN2.out, by omega⟩
          · have ne : (r != 0) = true := by simpa using hr0
            have HN2 : Hid (acc ++ Lib.encodeRune r = rowBytes ((rowAt n cs k).take (j + 1))) := by
              unfold Hid
              rw [HNX.out, if_neg hr0, ← HACC.out]
            have hl4 := encode_len r
            clear HNX HACC
            go_wp2_with (first
            | (refine wpList_load_mid rfl 30 (.tmp 29) rfl b (o + k * n * 4 + j * 4) rfl (words (r, f, bk, x)) _ HRG.out Tryd.underlying30 rfl cell4_size ?_)
            | (refine wpList_store_row rfl 30 (.tmp 9) _ rfl wr.heap.size #[.int .i32 r, .int .i64 f, .int .i64 bk, .int .i64 x] rfl rfl _ _ (heap_alloc_new wr _) cell4_size rfl (words_one (r, f, bk, x)) ?_
               have hn0 := setRow_heap _ _ _ #[.int .i32 r, .int .i64 f, .int .i64 bk, .int .i64 x] _ _ (heap_alloc_new wr (.cells #[.int .i32 0, .int .i64 0, .int .i64 0, .int .i64 0] 30))
               have kZ : Below wr.heap.size wr ((wr.alloc (.cells #[.int .i32 0, .int .i64 0, .int .i64 0, .int .i64 0] 30)).setRow wr.heap.size #[.int .i32 r, .int .i64 f, .int .i64 bk, .int .i64 x]) := below_setRow ((Below.refl _ _).alloc (Nat.le_refl _) _) (Nat.le_refl _) _
               generalize ((wr.alloc (.cells #[.int .i32 0, .int .i64 0, .int .i64 0, .int .i64 0] 30)).setRow wr.heap.size #[.int .i32 r, .int .i64 f, .int .i64 bk, .int .i64 x]) = Z at *
               obtain ⟨g0, g1, g2, g3⟩ := cells4 hn0)
            | (go_at_call 31; refine (Tryd.Builder_WriteRune_k B0 B0 _ r (by omega) (by omega) _ (builder_below HI0.out kZ) (by rw [Lib.byteCells_length]; omega) (by have := kZ.size; omega)).mono ?_; rintro e W8 ⟨rfl, h8, b8, k8⟩))
            go_roundg (n - (j + 1))
            case measure => omega
            case rel =>
              refine ⟨j + 1, acc ++ Lib.encodeRune r, rfl, by omega, by omega, (hb.trans (kZ.mono hBW)).trans b8, ?_, HN2.out, by rw [List.length_append]; omega⟩
              rw [Lib.byteCells_append, Lib.byteCells_encodeRune]
              exact Or.inr h8
        · have lt2 : ¬ ((j : Int) < (n : Int)) := by omega
          have HE : Hid (acc = rowBytes (rowAt n cs k)) := by
            unfold Hid
            rw [HACC.out, List.take_of_length_le (by rw [HRL.out]; omega)]
          clear HACC
          have hkL : k < Ls.length := by rw [HLS.out]; exact hlt
          have hGB : G < B0 := by rw [← hB0]; exact blk_lt vG
          have hTR : ∀ W, Calls Tryd.prog 32 #[.string ⟨acc.toArray⟩, .string ⟨#[32]⟩] W fun e w' => e = .returned (.string ⟨(Lib.trimRightB acc 32).toArray⟩) ∧ W = w' := fun W => by
            have := Tryd.strings_TrimRight_one ⟨acc.toArray⟩ 32 (by decide) W (by show acc.toArray.size ≤ _; simp; omega)
            exact this.mono fun e w' h => ⟨by simpa using h.1, h.2.symm⟩
          go_wp2_with (first
            | (go_at_call 33; refine (Tryd.Builder_String_any_k B0 B0 acc _ hI hBW).mono ?_; rintro e W7 ⟨rfl, _, b7, _⟩
               have kV := hb.trans b7
               have vG7 : W7.heap[G]? = _ := (kV.block G hGB).trans vG
               have v07 : W7.heap[w.heap.size]? = _ := (kV.block _ (by rw [← hB0]; exact blk_lt v0)).trans v0
               have hce : W7.cell? ⟨G, k, none⟩ = some Ls[k] := by unfold World.cell?; rw [vG7]; simp [hkL]
               have hfz : W7.frozen? ⟨G, k, none⟩ = false := frozen_of vG7 _)
            | (go_at_call 32; refine (hTR _).mono ?_; rintro e W8 ⟨rfl, rfl⟩))
          go_roundg (hh - (k + 1))
          case measure => omega
          case rel =>
            refine ⟨k + 1, Ls.set k (.string ⟨(Lib.trimRightB acc 32).toArray⟩), rfl, by omega, by omega, (kW.trans (kV.mono hNB)).setCell (by dsimp only; omega) _, ?_, ?_, by rw [List.length_set]; exact HLS.out, ?_⟩
            · rw [heap_setCell_other _ _ _ _ (by dsimp only; omega)]; exact v07
            · have := heap_setCell_same W7 G k _ _ (.string ⟨(Lib.trimRightB acc 32).toArray⟩) vG7
              simpa using this
            · intro i hi
              by_cases hik : i = k
              · subst hik
                rw [List.getElem?_set_self hkL, HE.out]; rfl
              · rw [List.getElem?_set_ne (by omega)]; exact HD.out i (by omega)
    · have lt1 : ¬ ((k : Int) < (hh : Int)) := by omega
      have hkh : k = hh := by omega
      go_wp2_with fail
      go_ret2
      refine ⟨_, rfl, ⟨G, 9, ?_, by omega, ?_⟩, kW⟩
      · simp [linesL]
      · rw [vG]
        have : Ls = (linesL n hh cs).map Value.string := by
          refine List.ext_getElem? fun i => ?_
          by_cases hi : i < hh
          · rw [HD.out i (by omega)]; simp [linesL, hi]
          · rw [List.getElem?_eq_none (by rw [HLS.out]; omega), List.getElem?_eq_none (by simp [linesL]; omega)]
        rw [this]
end Grd
end Go.Proofs.YtinhmklpnkikgabDoor
