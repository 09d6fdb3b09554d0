/- The reference's bytes of an event. -/
import Derived.Test.YtmgmdijhiplalaaDoorParseTold
import Derived.Laws.IdiomStrings
import Derived.LoopN
namespace Go.Proofs.YtmgmdijhiplalaaDoor
open Go.ChangeShapes Go.WideShapes Go.ChangeAt Go.RowKit Go.Sort
namespace Prs
theorem numR_len (n : Int) (h0 : -9223372036854775808 ≤ n) (h1 : n ≤ 9223372036854775807) : (numR n).length ≤ 21 := by
  unfold numR
  split
  · simp
  · exact Lib.itoa_length_le n h0 h1
/-- One byte in a block of its own, turned into a text. -/
theorem byte_conv (z : Int) (h0 : 0 ≤ z) (h1 : z ≤ 255) (W : World) : (convert 52 9 (.slice (some ⟨W.heap.size, 0, none⟩) 1 1)).run Tryd.prog (W.alloc (.cells #[.int .u8 z] 5)) = .ok (.string (one z.toNat.toUInt8)) (W.alloc (.cells #[.int .u8 z] 5)) := by
  have e : (z.toNat.toUInt8.toNat : Int) = z := by rw [byteN _ (by omega), Int.toNat_of_nonneg h0]
  have h := run_convert_bytes_back (P := Tryd.prog) (W.alloc (.cells #[.int .u8 (z.toNat.toUInt8.toNat : Int)] 5)) 52 9 5 ⟨W.heap.size, 0, none⟩ 1 [z.toNat.toUInt8] und_bytes und_byte und_string (fun j hj => by
      match j, hj with
      | 0, _ => exact (cell1 (heap_alloc_new W _)).1)
  rw [e] at h
  exact h
theorem cell_new {W : World} {k : Nat} {v : Value} {i : Nat} (o : Obj) (h : W.cell? ⟨k, i, none⟩ = some v) : (W.alloc o).cell? ⟨k, i, none⟩ = some v := cell_stay ((Below.refl _ W).alloc (Nat.le_refl _) o) h
set_option maxHeartbeats 8000000 in
set_option maxRecDepth 100000 in
theorem eventBytes_any (e : Ev) (pa : Option Addr) (pc : Nat) (w : World) (hP : P10 w) (hI : IntsV w (.slice pa e.ps.length pc) e.ps) (hf : Fine e) :
    Calls Tryd.prog 36 #[.agg #[.int .i64 e.kind, .int .i32 e.r, .int .u8 e.fin, .int .u8 e.mark, .string e.mid, .slice pa e.ps.length pc, .string e.txt]] w fun r w' => r = .returned (.string (bs (evR e))) ∧ Below w.heap.size w w' := by
  obtain ⟨W0, hW0⟩ : ∃ W0, w.alloc (.cells #[.int .i64 e.kind, .int .i32 e.r, .int .u8 e.fin, .int .u8 e.mark, .string e.mid, .slice pa e.ps.length pc, .string e.txt] 37) = W0 := ⟨_, rfl⟩
  have x0 := heap_alloc_new w (.cells #[.int .i64 e.kind, .int .i32 e.r, .int .u8 e.fin, .int .u8 e.mark, .string e.mid, .slice pa e.ps.length pc, .string e.txt] 37)
  have kb : Below w.heap.size w (w.alloc (.cells #[.int .i64 e.kind, .int .i32 e.r, .int .u8 e.fin, .int .u8 e.mark, .string e.mid, .slice pa e.ps.length pc, .string e.txt] 37)) := (Below.refl _ _).alloc (Nat.le_refl _) _
  obtain ⟨c0, c1, c2, c3, c4, c5, c6, cf⟩ := cells7 x0
  rw [hW0] at x0 kb
  have HKB : Hid _ := kb
  have HX0 : Hid _ := x0
  have HW0 : Hid (_ = W0) := hW0
  have HPP : Hid (P10 w) := hP
  have HII : Hid (IntsV w (.slice pa e.ps.length pc) e.ps) := hI
  have HF : Hid (Fine e) := hf
  have HE : Hid (evR e = if e.kind = 1 then Lib.encodeRune e.r else if e.kind = 2 then (if e.r < 0 ∨ 31 < e.r then [] else [(e.r % 256).toNat.toUInt8]) else if e.kind = 3 then 27 :: (e.mid.data.toList ++ [e.fin.toNat.toUInt8]) else if e.kind = 4 then 27 :: 91 :: (markL e.mark ++ psR true e.ps ++ e.mid.data.toList ++ [e.fin.toNat.toUInt8]) else if e.kind = 5 then 27 :: 93 :: (e.txt.data.toList ++ [7]) else []) := rfl
  generalize evR e = res at HE ⊢
  clear x0 kb hP hI hf cf hW0
  by_cases k1 : e.kind = 1
  · have b1 : (e.kind == 1) = true := by rw [beq_iff_eq]; exact k1
    have K1 : Hid (e.kind = 1) := k1
    clear k1
    go_enter Tryd.func36, Tryd.ntmps36
    go_wp2_with fail
    go_ret
    refine ⟨?_, by rw [HW0.out]; exact HKB.out⟩
    rw [HE.out, if_pos K1.out, ← encode_eq]
    rfl
  have b1 : (e.kind == 1) = false := by rw [beq_eq_false_iff_ne]; exact k1
  have K1 : Hid (¬ e.kind = 1) := k1
  clear k1
  by_cases k2 : e.kind = 2
  · have b2 : (e.kind == 2) = true := by rw [beq_iff_eq]; exact k2
    have K2 : Hid (e.kind = 2) := k2
    clear k2
    by_cases r0 : e.r < 0
    · have HR : Hid (([] : List UInt8) = res) := by unfold Hid; rw [HE.out, if_neg K1.out, if_pos K2.out, if_pos (.inl r0)]
      go_enter Tryd.func36, Tryd.ntmps36
      go_wp2_with fail
      go_ret
      exact ⟨by rw [← HR.out]; rfl, by rw [HW0.out]; exact HKB.out⟩
    by_cases r1 : 31 < e.r
    · have HR : Hid (([] : List UInt8) = res) := by unfold Hid; rw [HE.out, if_neg K1.out, if_pos K2.out, if_pos (.inr r1)]
      go_enter Tryd.func36, Tryd.ntmps36
      go_wp2_with fail
      go_ret
      exact ⟨by rw [← HR.out]; rfl, by rw [HW0.out]; exact HKB.out⟩
    have HR : Hid ([e.r.toNat.toUInt8] = res) := by unfold Hid; rw [HE.out, if_neg K1.out, if_pos K2.out, if_neg (by omega), show e.r % 256 = e.r by omega]
    have hcv := byte_conv e.r (by omega) (by omega) (w.alloc (.cells #[.int .i64 e.kind, .int .i32 e.r, .int .u8 e.fin, .int .u8 e.mark, .string e.mid, .slice pa e.ps.length pc, .string e.txt] 37))
    simp only [World.size_alloc] at hcv
    go_enter Tryd.func36, Tryd.ntmps36
    go_wp2_with fail
    go_ret
    refine ⟨by rw [← HR.out]; rfl, ?_⟩
    rw [HW0.out]
    exact HKB.out.alloc HKB.out.size _
  have b2 : (e.kind == 2) = false := by rw [beq_eq_false_iff_ne]; exact k2
  have K2 : Hid (¬ e.kind = 2) := k2
  clear k2
  by_cases k3 : e.kind = 3
  · have b3 : (e.kind == 3) = true := by rw [beq_iff_eq]; exact k3
    have K3 : Hid (e.kind = 3) := k3
    clear k3
    have hcv := byte_conv e.fin HF.out.f0 HF.out.f1 (w.alloc (.cells #[.int .i64 e.kind, .int .i32 e.r, .int .u8 e.fin, .int .u8 e.mark, .string e.mid, .slice pa e.ps.length pc, .string e.txt] 37))
    simp only [World.size_alloc] at hcv
    have HR : Hid (bs [27] ++ e.mid ++ one e.fin.toNat.toUInt8 = bs res) := by
      unfold Hid
      rw [HE.out, if_neg K1.out, if_neg K2.out, if_pos K3.out, show one e.fin.toNat.toUInt8 = bs [e.fin.toNat.toUInt8] from rfl]
      conv => lhs; rw [← bs_self e.mid]
      rw [bs_append, bs_append]
      simp
    have hmn := HF.out.ml
    have hs1 : ¬ 9223372036854775807 < 1 + e.mid.size := by omega
    have hs2 : ¬ 9223372036854775807 < 1 + e.mid.size + (one e.fin.toNat.toUInt8).size := by rw [show (one e.fin.toNat.toUInt8).size = 1 from rfl]; omega
    rw [show bs [27] = ⟨#[27]⟩ from rfl] at HR
    clear hmn
    generalize one e.fin.toNat.toUInt8 = tf at *
    go_enter Tryd.func36, Tryd.ntmps36
    go_wp2_with fail
    go_ret
    refine ⟨by rw [← HR.out]; rfl, ?_⟩
    rw [HW0.out]
    exact HKB.out.alloc HKB.out.size _
  have b3 : (e.kind == 3) = false := by rw [beq_eq_false_iff_ne]; exact k3
  have K3 : Hid (¬ e.kind = 3) := k3
  clear k3
  by_cases k4 : e.kind = 4
  · have b4 : (e.kind == 4) = true := by rw [beq_iff_eq]; exact k4
    have K4 : Hid (e.kind = 4) := k4
    clear k4
    have HR : Hid (bs (27 :: 91 :: (markL e.mark ++ psR true e.ps)) ++ e.mid ++ one e.fin.toNat.toUInt8 = bs res) := by
      unfold Hid
      rw [HE.out, if_neg K1.out, if_neg K2.out, if_neg K3.out, if_pos K4.out, show one e.fin.toNat.toUInt8 = bs [e.fin.toNat.toUInt8] from rfl]
      conv => lhs; rw [← bs_self e.mid]
      rw [bs_append, bs_append]
      simp
    by_cases hm : e.mark = 0
    · have hmb : (e.mark == 0) = true := by rw [beq_iff_eq]; exact hm
      have hmb2 : (e.mark != 0) = false := by simp [bne, hmb]
      have HML : Hid (markL e.mark = []) := by unfold Hid markL; rw [if_pos hm]
      clear hm
      go_enter Tryd.func36, Tryd.ntmps36
      go_wp2_with fail
      rw [HW0.out]
      clear c0 c1 c2 c3 c4 c5 c6 HW0
      go_loopg [3, 52] e.ps.length (fun g s i wr => ∃ (k : Nat) (acc : List UInt8), k ≤ e.ps.length ∧ e.ps.length - k ≤ g ∧ i = .int .i64 k ∧ s = .string (bs acc) ∧ Below W0.heap.size W0 wr ∧ acc ++ psR (k == 0) (e.ps.drop k) = 27 :: 91 :: (markL e.mark ++ psR true e.ps) ∧ acc.length ≤ 3 + 22 * k)
      case atStart => exact ⟨0, [27, 91], by omega, by omega, rfl, rfl, Below.refl _ _, by rw [HML.out]; rfl, by simp⟩
      case round =>
        obtain ⟨k, acc, hk, hg, rfl, rfl, hb, hacc, hal⟩ := hrel
        have HC : Hid (acc ++ psR (k == 0) (e.ps.drop k) = 27 :: 91 :: (markL e.mark ++ psR true e.ps)) := hacc
        have HB : Hid (Below W0.heap.size W0 wr) := hb
        have HBW : Hid (Below w.heap.size w wr) := HKB.out.trans (hb.mono HKB.out.size)
        have hbl : (bs acc).size ≤ 3 + 22 * k := by rw [bs_size]; exact hal
        have hpn := HF.out.pl
        clear hacc hb
        by_cases hlt : k < e.ps.length
        · have lt1 : ((k : Int) < (e.ps.length : Int)) := by omega
          rcases HII.out with ⟨he, -⟩ | ⟨b, o, c, hvv, hc⟩
          · rw [he] at hlt
            exact absurd hlt (by simp)
          injection hvv with hvv1 hvv2 hvv3
          subst hvv1 hvv3
          have q0 : wr.cell? ⟨b, o + k, none⟩ = some (.int .i64 (e.ps.getD k 0)) := cell_stay HBW.out (ints_cell hc k hlt)
          have hy := HF.out.pw (e.ps.getD k 0) (by simp [List.getD, hlt])
          have HPk : Hid (P10 wr) := HPP.out.below HBW.out
          have HD : Hid (e.ps.drop k = e.ps.getD k 0 :: e.ps.drop (k + 1)) := drop_cons e.ps k hlt
          have hil := Lib.itoa_length_le (e.ps.getD k 0) hy.1 hy.2
          have HNL : Hid ((numR (e.ps.getD k 0)).length ≤ 21) := numR_len _ hy.1 hy.2
          clear hc
          generalize e.ps.getD k 0 = y at *
          have hbi : (bs (Lib.itoa y)).size ≤ 21 := by rw [bs_size]; exact hil
          by_cases hym : y < 0
          · have HN : Hid (numR y = []) := by unfold Hid numR; rw [if_pos hym]
            have hym2 : ¬ (0 : Int) ≤ y := by omega
            by_cases hk0 : k = 0
            · subst hk0
              simp only [Nat.add_zero] at q0
              go_wp2_with fail
              go_roundg (e.ps.length - 1)
              case measure => omega
              case rel => exact ⟨1, acc, by omega, by omega, rfl, rfl, HB.out, by rw [← HC.out, HD.out]; simp [psR, HN.out], by omega⟩
            · have hkb : (k == 0) = false := by simp; omega
              have hs1 : ¬ 9223372036854775807 < (bs acc).size + 1 := by omega
              go_wp2_with fail
              go_roundg (e.ps.length - (k + 1))
              case measure => omega
              case rel =>
                refine ⟨k + 1, acc ++ [59], by omega, by omega, by go_num, ?_, HB.out, ?_, by simp; omega⟩
                · show Value.string (bs acc ++ bs [59]) = _
                  rw [bs_append]
                · rw [← HC.out, HD.out, hkb]; simp [psR, HN.out]
          · have HN : Hid (numR y = Lib.itoa y) := by unfold Hid numR; rw [if_neg hym]
            have hym2 : (0 : Int) ≤ y := by omega
            by_cases hk0 : k = 0
            · subst hk0
              simp only [Nat.add_zero] at q0
              have hs1 : ¬ 9223372036854775807 < (bs acc).size + (bs (Lib.itoa y)).size := by omega
              go_wp2_with fail
              refine (itoa_any y _ hy.1 hy.2 HPk.out).mono ?_
              rintro r W1 ⟨rfl, b1⟩
              go_wp2_with fail
              go_roundg (e.ps.length - 1)
              case measure => omega
              case rel =>
                refine ⟨1, acc ++ Lib.itoa y, by omega, by omega, rfl, ?_, HB.out.trans (b1.mono HB.out.size), ?_, by simp; omega⟩
                · show Value.string (bs acc ++ bs (Lib.itoa y)) = _
                  rw [bs_append]
                · rw [← HC.out, HD.out]; simp [psR, HN.out]
            · have hkb : (k == 0) = false := by simp; omega
              have hs1 : ¬ 9223372036854775807 < (bs acc).size + 1 := by omega
              have hs2 : ¬ 9223372036854775807 < (bs acc ++ bs [59]).size + (bs (Lib.itoa y)).size := by rw [ByteArray.size_append, bs_size [59]]; simp only [List.length_cons, List.length_nil]; omega
              go_wp2_with fail
              refine (itoa_any y _ hy.1 hy.2 HPk.out).mono ?_
              rintro r W1 ⟨rfl, b1⟩
              go_wp2_with fail
              go_roundg (e.ps.length - (k + 1))
              case measure => omega
              case rel =>
                refine ⟨k + 1, acc ++ [59] ++ Lib.itoa y, by omega, by omega, by go_num, ?_, HB.out.trans (b1.mono HB.out.size), ?_, by simp; omega⟩
                · show Value.string (bs acc ++ bs [59] ++ bs (Lib.itoa y)) = _
                  rw [bs_append, bs_append]
                · rw [← HC.out, HD.out, hkb]; simp [psR, HN.out]
        · have lt1 : ¬ ((k : Int) < (e.ps.length : Int)) := by omega
          have hk2 : k = e.ps.length := by omega
          have HA : Hid (acc = 27 :: 91 :: (markL e.mark ++ psR true e.ps)) := by
            have h := HC.out
            rw [hk2, List.drop_length] at h
            unfold Hid
            cases hx : (e.ps.length == 0) <;> rw [hx] at h <;> simpa [psR] using h
          have hcv2 := byte_conv e.fin HF.out.f0 HF.out.f1 wr
          obtain ⟨d0, d1, d2, d3, d4, d5, d6, df⟩ := cells7 (stay HX0.out HB.out)
          have hmn := HF.out.ml
          have hs1 : ¬ 9223372036854775807 < (bs acc).size + e.mid.size := by omega
          have hs2 : ¬ 9223372036854775807 < (bs acc).size + e.mid.size + (one e.fin.toNat.toUInt8).size := by rw [show (one e.fin.toNat.toUInt8).size = 1 from rfl]; omega
          have HR2 : Hid (bs acc ++ e.mid ++ one e.fin.toNat.toUInt8 = bs res) := by unfold Hid; rw [HA.out]; exact HR.out
          clear hmn
          generalize one e.fin.toNat.toUInt8 = tf at *
          go_wp2_with fail
          go_ret
          exact ⟨by rw [← HR2.out]; rfl, HBW.out.alloc HBW.out.size _⟩
    · have hmb : (e.mark == 0) = false := by rw [beq_eq_false_iff_ne]; exact hm
      have hmb2 : (e.mark != 0) = true := by simp [bne, hmb]
      have HML : Hid (markL e.mark = [e.mark.toNat.toUInt8]) := by unfold Hid markL; rw [if_neg hm]
      have hcv := byte_conv e.mark HF.out.m0 HF.out.m1 (w.alloc (.cells #[.int .i64 e.kind, .int .i32 e.r, .int .u8 e.fin, .int .u8 e.mark, .string e.mid, .slice pa e.ps.length pc, .string e.txt] 37))
      simp only [World.size_alloc] at hcv
      clear hm
      go_enter Tryd.func36, Tryd.ntmps36
      go_wp2_with fail
      rw [HW0.out]
      clear c0 c1 c2 c3 c4 c5 c6 HW0 hcv
      go_loopg [3, 52] e.ps.length (fun g s i wr => ∃ (k : Nat) (acc : List UInt8), k ≤ e.ps.length ∧ e.ps.length - k ≤ g ∧ i = .int .i64 k ∧ s = .string (bs acc) ∧ Below W0.heap.size W0 wr ∧ acc ++ psR (k == 0) (e.ps.drop k) = 27 :: 91 :: (markL e.mark ++ psR true e.ps) ∧ acc.length ≤ 3 + 22 * k)
      case atStart => exact ⟨0, [27, 91, e.mark.toNat.toUInt8], by omega, by omega, rfl, rfl, (Below.refl _ _).alloc (Nat.le_refl _) _, by rw [HML.out]; rfl, by simp⟩
      case round =>
        obtain ⟨k, acc, hk, hg, rfl, rfl, hb, hacc, hal⟩ := hrel
        have HC : Hid (acc ++ psR (k == 0) (e.ps.drop k) = 27 :: 91 :: (markL e.mark ++ psR true e.ps)) := hacc
        have HB : Hid (Below W0.heap.size W0 wr) := hb
        have HBW : Hid (Below w.heap.size w wr) := HKB.out.trans (hb.mono HKB.out.size)
        have hbl : (bs acc).size ≤ 3 + 22 * k := by rw [bs_size]; exact hal
        have hpn := HF.out.pl
        clear hacc hb
        by_cases hlt : k < e.ps.length
        · have lt1 : ((k : Int) < (e.ps.length : Int)) := by omega
          rcases HII.out with ⟨he, -⟩ | ⟨b, o, c, hvv, hc⟩
          · rw [he] at hlt
            exact absurd hlt (by simp)
          injection hvv with hvv1 hvv2 hvv3
          subst hvv1 hvv3
          have q0 : wr.cell? ⟨b, o + k, none⟩ = some (.int .i64 (e.ps.getD k 0)) := cell_stay HBW.out (ints_cell hc k hlt)
          have hy := HF.out.pw (e.ps.getD k 0) (by simp [List.getD, hlt])
          have HPk : Hid (P10 wr) := HPP.out.below HBW.out
          have HD : Hid (e.ps.drop k = e.ps.getD k 0 :: e.ps.drop (k + 1)) := drop_cons e.ps k hlt
          have hil := Lib.itoa_length_le (e.ps.getD k 0) hy.1 hy.2
          have HNL : Hid ((numR (e.ps.getD k 0)).length ≤ 21) := numR_len _ hy.1 hy.2
          clear hc
          generalize e.ps.getD k 0 = y at *
          have hbi : (bs (Lib.itoa y)).size ≤ 21 := by rw [bs_size]; exact hil
          by_cases hym : y < 0
          · have HN : Hid (numR y = []) := by unfold Hid numR; rw [if_pos hym]
            have hym2 : ¬ (0 : Int) ≤ y := by omega
            by_cases hk0 : k = 0
            · subst hk0
              simp only [Nat.add_zero] at q0
              go_wp2_with fail
              go_roundg (e.ps.length - 1)
              case measure => omega
              case rel => exact ⟨1, acc, by omega, by omega, rfl, rfl, HB.out, by rw [← HC.out, HD.out]; simp [psR, HN.out], by omega⟩
            · have hkb : (k == 0) = false := by simp; omega
              have hs1 : ¬ 9223372036854775807 < (bs acc).size + 1 := by omega
              go_wp2_with fail
              go_roundg (e.ps.length - (k + 1))
              case measure => omega
              case rel =>
                refine ⟨k + 1, acc ++ [59], by omega, by omega, by go_num, ?_, HB.out, ?_, by simp; omega⟩
                · show Value.string (bs acc ++ bs [59]) = _
                  rw [bs_append]
                · rw [← HC.out, HD.out, hkb]; simp [psR, HN.out]
          · have HN : Hid (numR y = Lib.itoa y) := by unfold Hid numR; rw [if_neg hym]
            have hym2 : (0 : Int) ≤ y := by omega
            by_cases hk0 : k = 0
            · subst hk0
              simp only [Nat.add_zero] at q0
              have hs1 : ¬ 9223372036854775807 < (bs acc).size + (bs (Lib.itoa y)).size := by omega
              go_wp2_with fail
              refine (itoa_any y _ hy.1 hy.2 HPk.out).mono ?_
              rintro r W1 ⟨rfl, b1⟩
              go_wp2_with fail
              go_roundg (e.ps.length - 1)
              case measure => omega
              case rel =>
                refine ⟨1, acc ++ Lib.itoa y, by omega, by omega, rfl, ?_, HB.out.trans (b1.mono HB.out.size), ?_, by simp; omega⟩
                · show Value.string (bs acc ++ bs (Lib.itoa y)) = _
                  rw [bs_append]
                · rw [← HC.out, HD.out]; simp [psR, HN.out]
            · have hkb : (k == 0) = false := by simp; omega
              have hs1 : ¬ 9223372036854775807 < (bs acc).size + 1 := by omega
              have hs2 : ¬ 9223372036854775807 < (bs acc ++ bs [59]).size + (bs (Lib.itoa y)).size := by rw [ByteArray.size_append, bs_size [59]]; simp only [List.length_cons, List.length_nil]; omega
              go_wp2_with fail
              refine (itoa_any y _ hy.1 hy.2 HPk.out).mono ?_
              rintro r W1 ⟨rfl, b1⟩
              go_wp2_with fail
              go_roundg (e.ps.length - (k + 1))
              case measure => omega
              case rel =>
                refine ⟨k + 1, acc ++ [59] ++ Lib.itoa y, by omega, by omega, by go_num, ?_, HB.out.trans (b1.mono HB.out.size), ?_, by simp; omega⟩
                · show Value.string (bs acc ++ bs [59] ++ bs (Lib.itoa y)) = _
                  rw [bs_append, bs_append]
                · rw [← HC.out, HD.out, hkb]; simp [psR, HN.out]
        · have lt1 : ¬ ((k : Int) < (e.ps.length : Int)) := by omega
          have hk2 : k = e.ps.length := by omega
          have HA : Hid (acc = 27 :: 91 :: (markL e.mark ++ psR true e.ps)) := by
            have h := HC.out
            rw [hk2, List.drop_length] at h
            unfold Hid
            cases hx : (e.ps.length == 0) <;> rw [hx] at h <;> simpa [psR] using h
          have hcv2 := byte_conv e.fin HF.out.f0 HF.out.f1 wr
          obtain ⟨d0, d1, d2, d3, d4, d5, d6, df⟩ := cells7 (stay HX0.out HB.out)
          have hmn := HF.out.ml
          have hs1 : ¬ 9223372036854775807 < (bs acc).size + e.mid.size := by omega
          have hs2 : ¬ 9223372036854775807 < (bs acc).size + e.mid.size + (one e.fin.toNat.toUInt8).size := by rw [show (one e.fin.toNat.toUInt8).size = 1 from rfl]; omega
          have HR2 : Hid (bs acc ++ e.mid ++ one e.fin.toNat.toUInt8 = bs res) := by unfold Hid; rw [HA.out]; exact HR.out
          clear hmn
          generalize one e.fin.toNat.toUInt8 = tf at *
          go_wp2_with fail
          go_ret
          exact ⟨by rw [← HR2.out]; rfl, HBW.out.alloc HBW.out.size _⟩
  have b4 : (e.kind == 4) = false := by rw [beq_eq_false_iff_ne]; exact k4
  have K4 : Hid (¬ e.kind = 4) := k4
  clear k4
  by_cases k5 : e.kind = 5
  · have b5 : (e.kind == 5) = true := by rw [beq_iff_eq]; exact k5
    have K5 : Hid (e.kind = 5) := k5
    clear k5
    have htn := HF.out.tl
    have hs1 : ¬ 9223372036854775807 < 2 + e.txt.size := by omega
    have hs2 : ¬ 9223372036854775807 < 2 + e.txt.size + 1 := by omega
    have HR : Hid (bs [27, 93] ++ e.txt ++ bs [7] = bs res) := by
      unfold Hid
      rw [HE.out, if_neg K1.out, if_neg K2.out, if_neg K3.out, if_neg K4.out, if_pos K5.out]
      conv => lhs; rw [← bs_self e.txt]
      rw [bs_append, bs_append]
      simp
    rw [show bs [27, 93] = ⟨#[27, 93]⟩ from rfl, show bs [7] = ⟨#[7]⟩ from rfl] at HR
    clear htn
    go_enter Tryd.func36, Tryd.ntmps36
    go_wp2_with fail
    go_ret
    exact ⟨by rw [← HR.out]; rfl, by rw [HW0.out]; exact HKB.out⟩
  have b5 : (e.kind == 5) = false := by rw [beq_eq_false_iff_ne]; exact k5
  have K5 : Hid (¬ e.kind = 5) := k5
  clear k5
  go_enter Tryd.func36, Tryd.ntmps36
  go_wp2_with fail
  go_ret
  refine ⟨?_, by rw [HW0.out]; exact HKB.out⟩
  rw [HE.out, if_neg K1.out, if_neg K2.out, if_neg K3.out, if_neg K4.out, if_neg K5.out]
  rfl
end Prs
end Go.Proofs.YtmgmdijhiplalaaDoor
