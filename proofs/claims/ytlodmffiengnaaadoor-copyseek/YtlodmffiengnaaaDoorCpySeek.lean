/- Package copying: seek. -/
import Derived.Test.YtlodmffiengnaaaDoorCpyFind
import Derived.Test.YtlodmffiengnaaaDoorCpyCalls
namespace Go.Proofs.YtlodmffiengnaaaDoor
open Go.ChangeShapes Go.WideShapes Go.ChangeAt Go.RowKit Go.Maps
namespace Cpy
open Txt (runes rn wd spotsL colsL cleanL bs okRune Tab)
def seekG (L : List ByteArray) (ws : List Int) (y : Nat) : Nat → Nat → Nat → Option (Int × Int)
  | 0, _, _ => none
  | g + 1, i, fr => if 0 ≤ findM (sp (ln L ((y + i) % L.length))) ws fr then some (findM (sp (ln L ((y + i) % L.length))) ws fr, (((y + i) % L.length : Nat) : Int)) else seekG L ws y g (i + 1) 0
/-- Where runes stand next. -/
def seekM (L : List ByteArray) (x : Int) (y : Nat) (ws : List Int) : Option (Int × Int) := seekG L ws y (L.length + 1) 0 (atI (cols (ln L y)) x + 1).toNat
def seekE : Option (Int × Int) → Int
  | none => 8
  | some _ => 0
def seekK (k : Cp) : Option (Int × Int) → Cp
  | none => k
  | some m => { k with x := m.1, y := m.2 }
theorem w64_sum {a b : Nat} (h : a + b ≤ 1000000) : wrap64 ((a : Int) + (b : Int)) = (a : Int) + (b : Int) := by unfold wrap64; omega
set_option maxHeartbeats 8000000 in
set_option maxRecDepth 100000 in
theorem seek_in (L : List ByteArray) (v : Value) (C : Nat) (x : Int) (y : Nat) (fx fy : Int) (on : Bool) (sub : ByteArray) (ws : List Int) (w : World) (h : LsAt w v L) (hT : Tab w) (hM : MaxAt w) (hbox : BoxAt w C ⟨x, y, fx, fy, on⟩)
    (hy : y < L.length) (hn : L.length ≤ 110) (hL : ∀ s ∈ L, s.size ≤ 4000) (hsub : sub.data.toList = E ws) (hws : ws ≠ []) (hok : ∀ r ∈ ws, okRune r) :
    Calls Tryd.prog 41 #[v, .pointer (some ⟨C, 0, none⟩), .string sub] w fun e w' => e = .returned (.int .i64 (seekE (seekM L x y ws))) ∧ BoxAt w' C (seekK ⟨x, y, fx, fy, on⟩ (seekM L x y ws)) ∧ But C w w' := by
  obtain ⟨R, hR⟩ : ∃ R, seekM L x y ws = R := ⟨_, rfl⟩
  rw [hR]
  unfold seekM at hR
  have HLS : Hid (∀ V, Below w.heap.size w V → LsAt V v L) := fun V hV => h.below hV
  have HTB : Hid (∀ V, Below w.heap.size w V → Tab V) := fun V hV => hT.below hV hT.pos
  have HMB : Hid (∀ V, Below w.heap.size w V → MaxAt V) := fun V hV => hM.below hV
  obtain ⟨b, o, c, rfl, q⟩ := h.get hy
  have hs := ln_size hL y
  have HL := fun W (hW : Below w.heap.size w W) => lineOf_any (ln L y) W (hT.below hW hT.pos) (by omega)
  have hsl := sp_len (ln L y)
  have HA := fun rv cv W (h : LnAt W rv cv (sp (ln L y))) => at_any rv cv (sp (ln L y)) x W h (sp_lt _) (by omega)
  have iy : (y : Int) < (L.length : Int) := by omega
  have iy0 : (0 : Int) ≤ (y : Int) := by omega
  rw [show (sp (ln L y)).map (·.2) = cols (ln L y) from rfl] at HA
  have HLL : Hid (∀ s ∈ L, s.size ≤ 4000) := hL
  have a1 := atI_ge (cols (ln L y)) x
  have a2 := atI_lt (cols (ln L y)) x
  rw [cols_len] at a2
  obtain ⟨n, hn2⟩ : ∃ n : Nat, atI (cols (ln L y)) x + 1 = (n : Int) := ⟨(atI (cols (ln L y)) x + 1).toNat, by omega⟩
  have hnl : n ≤ (sp (ln L y)).length := by omega
  rw [hn2, Int.toNat_natCast] at hR
  have HR : Hid (seekG L ws y (L.length + 1) 0 n = R) := hR
  have HNL : Hid (n ≤ (sp (ln L y)).length) := hnl
  have HBX : Hid (BoxAt w C ⟨x, y, fx, fy, on⟩) := hbox
  have HWS : Hid (sub.data.toList = E ws ∧ ws ≠ [] ∧ ∀ r ∈ ws, okRune r) := ⟨hsub, hws, hok⟩
  have hwa : wrap64 (atI (cols (ln L y)) x + 1) = (n : Int) := by rw [hn2]; unfold wrap64; omega
  obtain ⟨⟨c0, c1, _⟩, _⟩ := hbox.cells
  simp only [] at c0 c1
  have hnn : n ≤ 4000 := by omega
  generalize atI (cols (ln L y)) x = a at *
  generalize hsn : ln L y = s at *
  have HSN : Hid (ln L y = s) := hsn
  clear h hT hM hL hR a1 a2 hsl hs hbox hnl hsub hws hok hsn
  go_enter Tryd.func41, Tryd.ntmps41
  go_upto_region 1 with fail
  have kd : Below w.heap.size w w.drew := (Below.refl _ _).drew
  have d0 : w.drew.cell? ⟨C, 0, none⟩ = some (.int .i64 x) := c0
  go_region_with (first
    | (go_at_call 43; refine (HL _ kd).mono ?_; rintro e W1 ⟨rv, cv, rfl, hln, b1⟩; have cx1 := CK.below b1 _ _ _ d0)
    | (go_at_call 44; refine (HA _ _ _ hln).mono ?_; rintro e W2 ⟨rfl, b2⟩))
  all_goals
    have k1 := (kd.trans (b1.mono kd.size)).trans (b2.mono (kd.trans (b1.mono kd.size)).size)
    have HY : Hid (y < L.length) := hy
    clear b1 b2 cx1 hln d0 kd c0 c1 HA HL q hy
    go_wp2_with fail
    clear hwa
    go_loopg [7, 28] (L.length + 1) (fun g u7 u28 wr => ∃ (i fr : Nat), u7 = .int .i64 (fr : Int) ∧ u28 = .int .i64 (i : Int) ∧ i ≤ L.length + 1 ∧ L.length + 1 - i ≤ g ∧ fr ≤ (sp (ln L ((y + i) % L.length))).length ∧ seekG L ws y (L.length + 1 - i) i fr = R ∧ Below w.heap.size w wr)
    case atStart => exact ⟨0, n, rfl, rfl, by omega, by omega, by rw [Nat.add_zero, Nat.mod_eq_of_lt HY.out, HSN.out]; exact HNL.out, HR.out, k1⟩
    case round =>
      obtain ⟨i, fr, rfl, rfl, hi, hg, hfr, hse, kb⟩ := hrel
      have HSE : Hid (seekG L ws y (L.length + 1 - i) i fr = R) := hse
      have hbw := HBX.out.below kb
      obtain ⟨⟨c0, c1, _⟩, hf⟩ := hbw.cells
      simp only [] at c0 c1
      have f0 := hf 0
      have f1 := hf 1
      clear hse hf HR k1 HNL
      by_cases hlt : i < L.length + 1
      · have ii : (i : Int) < (L.length : Int) + 1 := by omega
        have hyy : (y + i) % L.length < L.length := Nat.mod_lt _ (by omega)
        obtain ⟨b', o', c', hv, q⟩ := (HLS.out _ kb).get hyy
        injection hv with e1 e2 e3
        injection e1 with e1
        injection e1 with e1 e4
        subst e1 e4 e3
        have hs := ln_size HLL.out ((y + i) % L.length)
        have HL := lineOf_any (ln L ((y + i) % L.length)) wr (HTB.out _ kb) (by omega)
        have hsl := sp_len (ln L ((y + i) % L.length))
        have HF := fun rv cv V (hl : LnAt V rv cv (sp (ln L ((y + i) % L.length)))) (hM : MaxAt V) => find_any rv cv (sp (ln L ((y + i) % L.length))) sub ws fr V hl hM (by omega) hfr HWS.out.1 HWS.out.2.1 HWS.out.2.2 (sp_ok _)
        have hse : seekG L ws y (L.length + 1 - i) i fr = R := HSE.out
        rw [show L.length + 1 - i = (L.length - i) + 1 by omega, seekG] at hse
        have hrem : Int.tmod ((y : Int) + (i : Int)) (L.length : Int) = (((y + i) % L.length : Nat) : Int) := by
          rw [← Int.natCast_add]
          exact (Int.ofNat_tmod _ _).symm
        have hyi : (((y + i) % L.length : Nat) : Int) < (L.length : Int) := Int.ofNat_lt.2 hyy
        generalize findM (sp (ln L ((y + i) % L.length))) ws fr = F at *
        generalize hS : sp (ln L ((y + i) % L.length)) = S at *
        generalize hs2 : ln L ((y + i) % L.length) = s2 at *
        have hwa2 := w64_sum (a := y) (b := i) (by omega)
        generalize hyn : (y + i) % L.length = yy at *
        clear hS hs2 hs hsl HSE hyn
        go_wp2_with fail
        refine HL.mono ?_
        rintro e W1 ⟨rv, cv, rfl, hln, b1⟩
        have k2 := kb.trans (b1.mono kb.size)
        clear hwa2 HL
        go_wp2_with fail
        refine (HF _ _ _ hln (HMB.out _ k2)).mono ?_
        rintro e W2 ⟨rfl, b2⟩
        have k3 := k2.trans (b2.mono k2.size)
        have hbw2 := HBX.out.below k3
        obtain ⟨⟨d0, d1, _⟩, hf2⟩ := hbw2.cells
        simp only [] at d0 d1
        have g0 := hf2 0
        have g1 := hf2 1
        clear HF b1 b2 hln k2 kb hbw c0 c1 f0 f1 q hf2
        by_cases hF : 0 ≤ F
        · rw [if_pos hF] at hse
          subst hse
          have y2 := (hbw2.setX F).setY yy
          have b2 := ((But.of_below (M := C) k3).setCell (i := 0) (.int .i64 F)).setCell (i := 1) (.int .i64 yy)
          go_wp2_with fail
          go_ret
          exact ⟨rfl, y2, b2⟩
        · rw [if_neg hF] at hse
          have HSE2 : Hid (seekG L ws y (L.length - i) (i + 1) 0 = R) := hse
          clear hse hrem
          go_wp2_with fail
          go_roundg (L.length - i)
          case measure => omega
          case rel => exact ⟨i + 1, 0, rfl, by go_num, by omega, by omega, Nat.zero_le _, by rw [show L.length + 1 - (i + 1) = L.length - i by omega]; exact HSE2.out, k3⟩
      · have ii : ¬ (i : Int) < (L.length : Int) + 1 := by omega
        have e0 : R = none := by
          have := HSE.out
          rw [show L.length + 1 - i = 0 by omega, seekG] at this
          exact this.symm
        subst e0
        have b2 := But.of_below (M := C) kb
        go_wp2_with fail
        go_ret
        exact ⟨rfl, hbw, b2⟩
end Cpy
end Go.Proofs.YtlodmffiengnaaaDoor
