/- The walks of rowOf and Check. -/
import Derived.Test.YtinhmklpnkikgabDoorGridCell
namespace Go.Proofs.YtinhmklpnkikgabDoor
open Go.ChangeShapes Go.WideShapes Go.ChangeAt Go.RowKit
namespace Grd
open Txt (wd)
set_option maxHeartbeats 1000000 in
theorem rowOf_any (b o L c n y : Nat) (h : Int) (w : World) (hn : 1 ≤ n) (hL : (y + 1) * n ≤ L) (hc : L ≤ c) (hm : c ≤ 9223372036854775807) :
    Calls Tryd.prog 18 #[.agg #[.int .i64 (n : Int), .int .i64 h, .slice (some ⟨b, o, none⟩) L c], .int .i64 (y : Int)] w fun e w' => e = .returned (.slice (some ⟨b, o + y * n * 4, none⟩) n (c - y * n)) ∧ Below w.heap.size w w' := by
  obtain ⟨p, hp⟩ : ∃ p, p = y * n := ⟨_, rfl⟩
  have hq : (y + 1) * n = p + n := by rw [hp, Nat.add_mul, Nat.one_mul]
  rw [hq] at hL
  rw [← hp]
  have hy : y ≤ p := by rw [hp]; exact Nat.le_mul_of_pos_right _ (by omega)
  have e1 : (y : Int) * (n : Int) = (p : Int) := by rw [hp]; simp
  have e2 : ((y : Int) + 1) * (n : Int) = ((p + n : Nat) : Int) := by rw [← hq]; simp
  clear hq hp
  have e3 : p + n - p = n := by omega
  go_enter Tryd.func18, Tryd.ntmps18
  go_wp2_with fail
  go_ret
  exact ⟨by show Ending.returned (.slice (some ⟨b, o + p * 4, none⟩) (p + n - p) (c - p)) = _; rw [e3], (Below.refl _ _).alloc (Nat.le_refl _) _⟩
theorem isSize_any (a b : Int) (w : World) :
    Calls Tryd.prog 17 #[.int .i64 a, .int .i64 b] w fun e w' => e = .returned (.bool (isSize a b)) ∧ w = w' := by
  go_enter Tryd.func17, Tryd.ntmps17
  go_wp2
  all_goals (go_ret; exact ⟨Sty.ret_bool (by rw [Bool.eq_iff_iff]; simp [isSize]; try omega), rfl⟩)
theorem isSize_to (a b : Int) (v : Bool) (h : isSize a b = v) (w : World) :
    Calls Tryd.prog 17 #[.int .i64 a, .int .i64 b] w fun e w' => e = .returned (.bool v) ∧ w = w' := by
  have := isSize_any a b w
  rwa [h] at this
/-- A slice of cells that reads as cs. -/
def SliceAt (w : World) (v : Value) (cs : List C) : Prop :=
  (cs = [] ∧ ∃ a c, v = .slice a 0 c) ∨ (cs ≠ [] ∧ ∃ b o c, v = .slice (some ⟨b, o, none⟩) cs.length c ∧ cs.length ≤ c ∧ c ≤ 9223372036854775807 ∧ CellsAt w b o cs)
theorem SliceAt.below {w w' : World} {v : Value} {cs : List C} (h : SliceAt w v cs) (hb : Below w.heap.size w w') : SliceAt w' v cs := by
  rcases h with h | ⟨h0, b, o, c, hv, hc, hm, hC⟩
  · exact .inl h
  · exact .inr ⟨h0, b, o, c, hv, hc, hm, hC.below hb⟩
theorem SliceAt.shape {w : World} {v : Value} {cs : List C} (h : SliceAt w v cs) : ∃ a c, v = .slice a cs.length c := by
  rcases h with ⟨rfl, a, c, rfl⟩ | ⟨_, b, o, c, rfl, _⟩
  · exact ⟨a, c, rfl⟩
  · exact ⟨_, c, rfl⟩
set_option maxHeartbeats 1000000 in
theorem check_size1 (a b : Int) (v : Value) (w : World) (h : isSize a b = false) :
    Calls Tryd.prog 7 #[.agg #[.int .i64 a, .int .i64 b, v]] w fun e w' => e = .returned (.int .i64 3) ∧ Below w.heap.size w w' := by
  have H : Hid (isSize a b = false) := h
  clear h
  go_enter Tryd.func7, Tryd.ntmps7
  go_wp2_with (go_at_call 17; refine (isSize_to a b _ H.out _).mono ?_; rintro e W1 ⟨rfl, rfl⟩)
  go_ret
  exact ⟨rfl, (Below.refl _ _).alloc (Nat.le_refl _) _⟩
theorem prod_in (a b : Int) (h : isSize a b = true) : 0 ≤ a * b ∧ a * b ≤ 7200 ∧ 1 ≤ a ∧ a ≤ 120 ∧ 1 ≤ b ∧ b ≤ 60 := by
  unfold isSize at h
  have h' := of_decide_eq_true h
  obtain ⟨h1, h2, h3, h4⟩ := h'
  have e1 : 0 ≤ a * b := Int.mul_nonneg (by omega) (by omega)
  have e2 : a * b ≤ 120 * 60 := Int.mul_le_mul h2 h4 (by omega) (by omega)
  exact ⟨e1, by omega, h1, h2, h3, h4⟩
set_option maxHeartbeats 1000000 in
theorem check_size2 (a b : Int) (ad : Option Addr) (L c : Nat) (w : World) (h : isSize a b = true) (hL : (L : Int) ≠ a * b) :
    Calls Tryd.prog 7 #[.agg #[.int .i64 a, .int .i64 b, .slice ad L c]] w fun e w' => e = .returned (.int .i64 3) ∧ Below w.heap.size w w' := by
  have H : Hid (isSize a b = true) := h
  have ⟨p0, p1, _⟩ := prod_in a b h
  clear h
  obtain ⟨p, hp⟩ : ∃ p, p = a * b := ⟨_, rfl⟩
  rw [← hp] at hL p0 p1
  have e1 : a * b = p := hp.symm
  clear hp
  have ne : ((L : Int) != p) = true := by simpa using hL
  clear hL
  go_enter Tryd.func7, Tryd.ntmps7
  go_wp2_with (go_at_call 17; refine (isSize_to a b _ H.out _).mono ?_; rintro e W1 ⟨rfl, rfl⟩)
  go_ret
  exact ⟨rfl, (Below.refl _ _).alloc (Nat.le_refl _) _⟩
theorem first_step (f : Nat → Int) (k N : Nat) (hk : k < N) : firstErr f k (N - k) = if f k = 0 then firstErr f (k + 1) (N - (k + 1)) else f k := by
  rw [show N - k = (N - (k + 1)) + 1 by omega]
  rfl
theorem first_end (f : Nat → Int) (k N : Nat) (hk : ¬ k < N) : firstErr f k (N - k) = 0 := by
  rw [show N - k = 0 by omega]
  rfl
theorem row_len (n hh : Nat) (cs : List C) (k : Nat) (hL : cs.length = n * hh) (hk : k < hh) : (rowAt n cs k).length = n := by
  unfold rowAt
  rw [List.length_take, List.length_drop, hL]
  have : (k + 1) * n ≤ n * hh := by rw [Nat.mul_comm n hh]; exact Nat.mul_le_mul_right _ hk
  rw [Nat.add_mul, Nat.one_mul] at this
  omega
theorem row_fits (n hh L : Nat) (k : Nat) (hL : L = n * hh) (hk : k < hh) : (k + 1) * n ≤ L := by
  rw [hL, Nat.mul_comm n hh]; exact Nat.mul_le_mul_right _ hk
theorem cells3 {w : World} {g : Nat} {t : TypeId} {a b c : Value} (h : w.heap[g]? = some (.cells #[a, b, c] t (0, 0))) :
    w.cell? ⟨g, 0, none⟩ = some a ∧ w.cell? ⟨g, 1, none⟩ = some b ∧ w.cell? ⟨g, 2, none⟩ = some c ∧ (∀ i, w.frozen? ⟨g, i, none⟩ = false) :=
  ⟨by simp [World.cell?, h], by simp [World.cell?, h], by simp [World.cell?, h], fun i => by simp [World.frozen?, h]⟩
theorem blk_lt {w : World} {g : Nat} {o : Obj} (h : w.heap[g]? = some o) : g < w.heap.size := (Array.getElem?_eq_some_iff.1 h).1
theorem carry {W W' : World} {g : Nat} {o : Obj} (h : W.heap[g]? = some o) (hb : Below W.heap.size W W') : W'.heap[g]? = some o := (hb.block _ (blk_lt h)).trans h
set_option maxHeartbeats 4000000 in
theorem check_rows (n hh : Nat) (b o c : Nat) (cs : List C) (w : World) (hT : Txt.Tab w) (hC : CellsAt w b o cs) (hs : isSize n hh = true) (hL : cs.length = n * hh) (hc : cs.length ≤ c) (hm : c ≤ 9223372036854775807) :
    Calls Tryd.prog 7 #[.agg #[.int .i64 (n : Int), .int .i64 (hh : Int), .slice (some ⟨b, o, none⟩) cs.length c]] w fun e w' => e = .returned (.int .i64 (firstErr (fun y => rowErr (rowAt n cs y)) 0 hh)) ∧ Below w.heap.size w w' := by
  have H : Hid (isSize n hh = true) := hs
  have HT : Hid (Txt.Tab w) := hT
  have HC : Hid (CellsAt w b o cs) := hC
  have HL : Hid (cs.length = n * hh) := hL
  have ⟨p0, p1, p2, p3, p4, p5⟩ := prod_in n hh hs
  clear hs hT hC
  have e1 : (n : Int) * (hh : Int) = (cs.length : Int) := by rw [hL]; simp
  have l1 : cs.length ≤ 7200 := by rw [hL]; omega
  clear hL p0 p1
  have ne : ((cs.length : Int) != (cs.length : Int)) = false := by simp
  go_enter Tryd.func7, Tryd.ntmps7
  go_wp2_with (go_at_call 17; refine (isSize_to n hh _ H.out _).mono ?_; rintro e W1 ⟨rfl, rfl⟩)
  generalize hF : (fun y => rowErr (rowAt n cs y)) = F
  have HF : Hid (∀ y, F y = rowErr (rowAt n cs y)) := fun y => by rw [← hF]
  have HFF : Hid (firstErr F 0 hh = firstErr (fun y => rowErr (rowAt n cs y)) 0 hh) := by unfold Hid; rw [hF]
  clear hF
  go_loopg [26] hh (fun g y wr => ∃ k : Nat, y = .int .i64 (k : Int) ∧ k ≤ hh ∧ hh - k ≤ g ∧ Below w.heap.size w wr ∧ wr.heap[w.heap.size]? = some (.cells #[.int .i64 (n : Int), .int .i64 (hh : Int), .slice (some ⟨b, o, none⟩) cs.length c] 24 (0, 0)) ∧ firstErr F k (hh - k) = firstErr F 0 hh)
  case atStart => exact ⟨0, rfl, by omega, by omega, (Below.refl _ _).alloc (Nat.le_refl _) _, heap_alloc_new _ _, rfl⟩
  case round =>
    obtain ⟨k, rfl, hk, hg, hb, hv, hf⟩ := hrel
    have HF1 : Hid (firstErr F k (hh - k) = firstErr F 0 hh) := hf
    clear hf
    have ⟨c0, c1, c2, _⟩ := cells3 hv
    by_cases hlt : k < hh
    · have HR : Hid (∀ W, Below w.heap.size w W → Calls Tryd.prog 18 #[.agg #[.int .i64 (n : Int), .int .i64 (hh : Int), .slice (some ⟨b, o, none⟩) cs.length c], .int .i64 (k : Int)] W fun e w' => e = .returned (.slice (some ⟨b, o + k * n * 4, none⟩) n (c - k * n)) ∧ Below W.heap.size W w') := fun W _ => rowOf_any b o cs.length c n k hh W (by omega) (row_fits n hh _ k HL.out hlt) hc hm
      have hrl := row_len n hh cs k HL.out hlt
      have HC1 : Hid (∀ W, Below w.heap.size w W → ∀ j : Nat, j < n → Calls Tryd.prog 19 #[.slice (some ⟨b, o + k * n * 4, none⟩) n (c - k * n), .int .i64 (j : Int)] W fun e w' => e = .returned (.int .i64 (cellErr (rowAt n cs k) j)) ∧ Below W.heap.size W w') := fun W kW j hj => by
        have hp := (HC.out.below kW).part (k * n) n (by have := row_fits n hh _ k HL.out hlt; rw [Nat.add_mul, Nat.one_mul] at this; omega)
        have := checkCell_any b (o + k * n * 4) (c - k * n) (rowAt n cs k) j W (Tab.next HT.out kW) hp (by rw [hrl]; exact hj) (by rw [hrl]; omega)
        rwa [hrl] at this
      have HRE : Hid (rowErr (rowAt n cs k) = firstErr (cellErr (rowAt n cs k)) 0 n) := by unfold Hid rowErr; rw [hrl]
      have HFk : Hid (F k = rowErr (rowAt n cs k)) := HF.out k
      clear hrl
      have lt1 : ((k : Int) < (hh : Int)) := by omega
      go_wp2_with (go_at_call 18; refine (HR.out _ hb).mono ?_; rintro e W1 ⟨rfl, b1⟩)
      have k1 : Below w.heap.size w W1 := hb.trans (b1.mono hb.size)
      have v1 := carry hv b1
      clear hb hv b1 c0 c1 c2
      generalize rowAt n cs k = row at *
      go_loopg [34] n (fun g x wr => ∃ j : Nat, x = .int .i64 (j : Int) ∧ j ≤ n ∧ n - j ≤ g ∧ Below w.heap.size w wr ∧ wr.heap[w.heap.size]? = some (.cells #[.int .i64 (n : Int), .int .i64 (hh : Int), .slice (some ⟨b, o, none⟩) cs.length c] 24 (0, 0)) ∧ firstErr (cellErr row) j (n - j) = firstErr (cellErr row) 0 n)
      case atStart => exact ⟨0, rfl, by omega, by omega, k1, v1, rfl⟩
      case round =>
        obtain ⟨j, rfl, hj, hg2, hb, hv, hf⟩ := hrel
        have HF2 : Hid (firstErr (cellErr row) j (n - j) = firstErr (cellErr row) 0 n) := hf
        clear hf
        by_cases hjn : j < n
        · have lt2 : ((j : Int) < (n : Int)) := by omega
          have KC := HC1.out _ hb j hjn
          have HST := first_step (cellErr row) j n hjn
          by_cases he : cellErr row j = 0
          · rw [if_pos he] at HST
            rw [he] at KC
            have HK : Hid (Calls Tryd.prog 19 #[.slice (some ⟨b, o + k * n * 4, none⟩) n (c - k * n), .int .i64 (j : Int)] wr fun e w' => e = .returned (.int .i64 0) ∧ Below wr.heap.size wr w') := KC
            have HS : Hid (firstErr (cellErr row) j (n - j) = firstErr (cellErr row) (j + 1) (n - (j + 1))) := HST
            clear KC HST he
            go_wp2_with (go_at_call 19; refine HK.out.mono ?_; rintro e W2 ⟨rfl, b2⟩)
            go_roundg (n - (j + 1))
            case measure => omega
            case rel => exact ⟨j + 1, rfl, by omega, by omega, hb.trans (b2.mono hb.size), carry hv b2, by rw [← HF2.out, HS.out]⟩
          · rw [if_neg he] at HST
            have HK : Hid (Calls Tryd.prog 19 #[.slice (some ⟨b, o + k * n * 4, none⟩) n (c - k * n), .int .i64 (j : Int)] wr fun e w' => e = .returned (.int .i64 (cellErr row j)) ∧ Below wr.heap.size wr w') := KC
            have HV : Hid (cellErr row j = firstErr F 0 hh) := by
              have h1 := first_step F k hh hlt
              have h2 : F k = cellErr row j := by rw [HFk.out, HRE.out, ← HF2.out, HST]
              rw [h2, if_neg he] at h1
              unfold Hid
              rw [← HF1.out, h1]
            clear KC HST
            generalize cellErr row j = ce at *
            have nz : (ce != 0) = true := by simpa using he
            go_wp2_with (go_at_call 19; refine HK.out.mono ?_; rintro e W2 ⟨rfl, b2⟩)
            go_ret
            exact ⟨Txt.ret_int (HV.out.trans HFF.out), hb.trans (b2.mono hb.size)⟩
        · have lt2 : ¬ ((j : Int) < (n : Int)) := by omega
          have HV : Hid (firstErr F k (hh - k) = firstErr F (k + 1) (hh - (k + 1))) := by
            have h1 := first_step F k hh hlt
            have h2 : F k = 0 := by rw [HFk.out, HRE.out, ← HF2.out, first_end _ _ _ hjn]
            rw [if_pos h2] at h1
            exact h1
          go_wp2_with fail
          go_roundg (hh - (k + 1))
          case measure => omega
          case rel => exact ⟨k + 1, rfl, by omega, by omega, hb, hv, by rw [← HF1.out, HV.out]⟩
    · have lt1 : ¬ ((k : Int) < (hh : Int)) := by omega
      have HV : Hid (0 = firstErr F 0 hh) := by unfold Hid; rw [← HF1.out, first_end _ _ _ hlt]
      go_wp2_with fail
      go_ret
      exact ⟨Txt.ret_int (HV.out.trans HFF.out), hb⟩
/-- Check tells gridErr of any grid. -/
theorem check_any (a h : Int) (v : Value) (cs : List C) (w : World) (hT : Txt.Tab w) (hS : SliceAt w v cs) :
    Calls Tryd.prog 7 #[.agg #[.int .i64 a, .int .i64 h, v]] w fun e w' => e = .returned (.int .i64 (gridErr a h cs)) ∧ Below w.heap.size w w' := by
  unfold gridErr
  cases hs : isSize a h with
  | false => rw [if_pos (Or.inl rfl)]; exact check_size1 a h v w hs
  | true =>
    obtain ⟨p0, p1, p2, p3, p4, p5⟩ := prod_in a h hs
    by_cases hL : (cs.length : Int) = a * h
    · rw [if_neg (by simp [hL])]
      rcases hS with ⟨rfl, _⟩ | ⟨_, b, o, c, rfl, hc, hm, hC⟩
      · exfalso
        have : 1 * 1 ≤ a * h := Int.mul_le_mul p2 p4 (by omega) (by omega)
        simp at hL
        omega
      · obtain ⟨n, rfl⟩ := Int.eq_ofNat_of_zero_le (show 0 ≤ a by omega)
        obtain ⟨m, rfl⟩ := Int.eq_ofNat_of_zero_le (show 0 ≤ h by omega)
        rw [Int.toNat_natCast, Int.toNat_natCast]
        exact check_rows n m b o c cs w hT hC hs (by exact_mod_cast hL) hc hm
    · rw [if_pos (Or.inr hL)]
      obtain ⟨ad, c, rfl⟩ := hS.shape
      exact check_size2 a h ad cs.length c w hs hL
end Grd
end Go.Proofs.YtinhmklpnkikgabDoor
