/- The walk of mend. -/
import Derived.Test.YtinhmklpnkikgabDoorGridApart
import Derived.Test.YtinhmklpnkikgabDoorGridParted
namespace Go.Proofs.YtinhmklpnkikgabDoor
open Go.ChangeShapes Go.WideShapes Go.ChangeAt Go.RowKit
namespace Grd
def setR (cs : List C) (x : Nat) : List C := cs.set x (32, (cs.getD x z0).2)
def mendStep (cs : List C) (x : Nat) : List C := if loose cs x then setR cs x else cs
/-- A row after its first k cells are mended, from the left. -/
def mendTo (cs : List C) : Nat → List C
  | 0 => cs
  | k + 1 => mendStep (mendTo cs k) k
def mendL (cs : List C) : List C := mendTo cs cs.length
theorem mendStep_len (cs : List C) (x : Nat) : (mendStep cs x).length = cs.length := by
  unfold mendStep setR
  split <;> simp
theorem mendTo_len (cs : List C) : ∀ k, (mendTo cs k).length = cs.length
  | 0 => rfl
  | k + 1 => by
    show (mendStep (mendTo cs k) k).length = _
    rw [mendStep_len, mendTo_len cs k]
open Txt (wd)
/-- The second half of a wide rune looks as the first one does. -/
def Alike (cs : List C) : Prop := ∀ x, x + 1 < cs.length → wd (cs.getD x z0).1 = 2 → (cs.getD (x + 1) z0).1 = 0 → (cs.getD x z0).2 = (cs.getD (x + 1) z0).2
theorem setR_at (cs : List C) (x j : Nat) (hx : x < cs.length) : (setR cs x).getD j z0 = if j = x then (32, (cs.getD x z0).2) else cs.getD j z0 := by
  unfold setR
  simp only [List.getD, List.getElem?_set]
  by_cases h : j = x
  · subst h; simp [hx]
  · simp [h, Ne.symm h]
theorem alike_setR (cs : List C) (x : Nat) (hx : x < cs.length) (h : Alike cs) : Alike (setR cs x) := by
  intro j hj h2 h0
  have hl : (setR cs x).length = cs.length := by simp [setR]
  rw [hl] at hj
  rw [setR_at cs x j hx] at h2 ⊢
  rw [setR_at cs x (j + 1) hx] at h0 ⊢
  by_cases hjx : j = x
  · rw [if_pos hjx] at h2
    exact absurd (show wd 32 = 2 from h2) (by decide +kernel)
  · rw [if_neg hjx] at h2 ⊢
    by_cases hj1 : j + 1 = x
    · rw [if_pos hj1] at h0
      exact absurd (show (32 : Int) = 0 from h0) (by decide)
    · rw [if_neg hj1] at h0 ⊢
      exact h j hj h2 h0
theorem alike_to (cs : List C) (h : Alike cs) : ∀ k, k ≤ cs.length → Alike (mendTo cs k)
  | 0, _ => h
  | k + 1, hk => by
    show Alike (mendStep (mendTo cs k) k)
    unfold mendStep
    split
    · exact alike_setR _ k (by rw [mendTo_len]; omega) (alike_to cs h k (by omega))
    · exact alike_to cs h k (by omega)
theorem flat_set : ∀ (cs : List C) (x : Nat), x < cs.length → (flat cs).set (x * 4) (.int .i32 32) = flat (setR cs x)
  | c :: cs, 0, _ => by
    show (words c ++ flat cs).set 0 _ = flat ((32, c.2) :: cs)
    rfl
  | c :: cs, x + 1, h => by
    have ih := flat_set cs x (by simpa using h)
    show (words c ++ flat cs).set ((x + 1) * 4) _ = flat (setR (c :: cs) (x + 1))
    have e : setR (c :: cs) (x + 1) = c :: setR cs x := by simp [setR]
    rw [e]
    show _ = words c ++ flat (setR cs x)
    rw [← ih, List.set_append_right _ _ (by simp [words]; omega), show (x + 1) * 4 - (words c).length = x * 4 by simp [words]; omega]
theorem row_set (pre post : List Value) (cs : List C) (x : Nat) (h : x < cs.length) : (pre ++ (flat cs ++ post)).set (pre.length + x * 4) (.int .i32 32) = pre ++ (flat (setR cs x) ++ post) := by
  rw [List.set_append_right _ _ (by omega), Nat.add_sub_cancel_left, List.set_append_left _ _ (by rw [flat_len]; omega), flat_set cs x h]
/-- The row lies in block g behind 'pre'. -/
theorem cellsAt_mid {w : World} {g : Nat} {cs : List C} {pre post : List Value} {t : TypeId} (h : w.heap[g]? = some (.cells (pre ++ (flat cs ++ post)).toArray t (0, 0))) : CellsAt w g pre.length cs := fun j hj => by
  have key : ∀ i, i < 4 → w.cell? ⟨g, pre.length + j * 4 + i, none⟩ = (words (cs.getD j z0))[i]? := fun i hi => by
    rw [← flat_at cs j i hj hi]
    unfold World.cell?
    rw [h]
    have hl : j * 4 + i < (flat cs).length := by rw [flat_len]; omega
    simp only [List.getElem?_toArray]
    rw [Nat.add_assoc, List.getElem?_append_right (by omega), Nat.add_sub_cancel_left, List.getElem?_append_left hl]
    rfl
  exact ⟨key 0 (by omega), key 1 (by omega), key 2 (by omega), key 3 (by omega)⟩
theorem frozen_of {w : World} {g : Nat} {A : Array Value} {t : TypeId} (h : w.heap[g]? = some (.cells A t (0, 0))) (i : Nat) : w.frozen? ⟨g, i, none⟩ = false := by simp [World.frozen?, h]
set_option maxHeartbeats 2000000 in
theorem mend_any (g c : Nat) (cs : List C) (pre post : List Value) (t : TypeId) (w : World) (hh : w.heap[g]? = some (.cells (pre ++ (flat cs ++ post)).toArray t (0, 0))) (hn : cs.length ≤ 1000000) (hT : Txt.Tab w) (hg : 0 < g) (hA : Alike cs) :
    Calls Tryd.prog 25 #[.slice (some ⟨g, pre.length, none⟩) cs.length c] w fun e w' => e = .returned (.tuple #[]) ∧ w'.heap[g]? = some (.cells (pre ++ (flat (mendL cs) ++ post)).toArray t (0, 0)) ∧ Apart g [g] w w' := by
  have HT : Hid (∀ W, Apart g [g] w W → Txt.Tab W) := fun W b => hT.below b.1 hg
  have HG : Hid (g < w.heap.size) := blk_lt hh
  have HA : Hid (∀ k, k ≤ cs.length → Alike (mendTo cs k)) := alike_to cs hA
  clear hT hg hA
  generalize hl : cs.length = L at *
  have HL : Hid (cs.length = L) := hl
  clear hl
  generalize hp : pre.length = o at *
  have HP : Hid (pre.length = o) := hp
  clear hp
  go_enter Tryd.func25, Tryd.ntmps25
  go_wp2_with fail
  go_loopg [5] L (fun q i wr => ∃ k : Nat, i = .int .i64 (k : Int) ∧ k ≤ L ∧ L - k ≤ q ∧ Apart g [g] w wr ∧ wr.heap[g]? = some (.cells (pre ++ (flat (mendTo cs k) ++ post)).toArray t (0, 0)))
  case atStart => exact ⟨0, rfl, by omega, by omega, Apart.refl _ _ _, hh⟩
  case round =>
    obtain ⟨k, rfl, hk, hq, hb, hv⟩ := hrel
    clear hh
    have hlen : (mendTo cs k).length = L := by rw [mendTo_len, HL.out]
    by_cases hlt : k < L
    · have lt1 : ((k : Int) < (L : Int)) := by omega
      have hC : CellsAt wr g o (mendTo cs k) := by have := cellsAt_mid hv; rwa [HP.out] at this
      have hcell := (hC k (by rw [hlen]; exact hlt)).1
      have KL := isLoose_any g o c (mendTo cs k) k wr (HT.out wr hb) hC (by rw [hlen]; exact hlt) (by rw [hlen]; exact hn)
      rw [hlen] at KL
      cases hlo : loose (mendTo cs k) k with
      | false =>
        rw [hlo] at KL
        have HK : Hid (Calls Tryd.prog 34 #[.slice (some ⟨g, o, none⟩) L c, .int .i64 (k : Int)] wr fun e w' => e = .returned (.bool false) ∧ Below wr.heap.size wr w') := KL
        have HKP : Hid (∀ W, Below wr.heap.size wr W → Calls Tryd.prog 37 #[.slice (some ⟨g, o, none⟩) L c, .int .i64 (k : Int)] W fun e w' => e = .returned (.bool false) ∧ Below W.heap.size W w') := fun W bW => by
          have := parted_of g o c (mendTo cs k) k W (Tab.next (HT.out wr hb) bW) (hC.below bW) (by rw [hlen]; exact hlt) (by rw [hlen]; exact hn) hlo (HA.out k (by omega) k)
          rwa [hlen] at this
        have HE : Hid (mendTo cs (k + 1) = mendTo cs k) := by
          show mendStep (mendTo cs k) k = _
          unfold mendStep
          rw [hlo]
          rfl
        clear KL hlo hC hcell hlen
        go_wp2_with (first
          | (go_at_call 34; refine HK.out.mono ?_; rintro e W1 ⟨rfl, b1⟩)
          | (go_at_call 37; refine (HKP.out _ b1).mono ?_; rintro e W2 ⟨rfl, b2⟩; have b3 := b1.trans (b2.mono b1.size)))
        go_roundg (L - (k + 1))
        case measure => omega
        case rel => exact ⟨k + 1, rfl, by omega, by omega, hb.step b3 (Nat.le_of_lt (blk_lt hv)), by rw [HE.out]; exact carry hv b3⟩
      | true =>
        rw [hlo] at KL
        have HK : Hid (Calls Tryd.prog 34 #[.slice (some ⟨g, o, none⟩) L c, .int .i64 (k : Int)] wr fun e w' => e = .returned (.bool true) ∧ Below wr.heap.size wr w') := KL
        have HE : Hid (pre ++ (flat (mendTo cs (k + 1)) ++ post) = (pre ++ (flat (mendTo cs k) ++ post)).set (o + k * 4) (.int .i32 32)) := by
          have e : mendTo cs (k + 1) = setR (mendTo cs k) k := by
            show mendStep (mendTo cs k) k = _
            unfold mendStep
            rw [hlo]
            rfl
          unfold Hid
          rw [e, ← HP.out]
          exact (row_set pre post _ k (by rw [hlen]; exact hlt)).symm
        generalize ((mendTo cs k).getD k z0).1 = rr at hcell
        clear KL hlo hC hlen
        go_wp2_with (first | (go_at_call 34; refine HK.out.mono ?_; rintro e W1 ⟨rfl, b1⟩; have hcell1 := cell_keep b1 hcell; have hv1 := carry hv b1; have hfz : W1.frozen? ⟨g, o + k * 4, none⟩ = false := frozen_of hv1 _))
        go_roundg (L - (k + 1))
        case measure => omega
        case rel =>
          refine ⟨k + 1, rfl, by omega, by omega, (hb.step b1 (Nat.le_of_lt (blk_lt hv))).setCell g _ _ (by simp) (Nat.le_refl _), ?_⟩
          rw [HE.out]
          have := heap_setCell_same W1 g (o + k * 4) _ t (.int .i32 32) hv1
          simpa using this
    · have lt1 : ¬ ((k : Int) < (L : Int)) := by omega
      have hkL : k = L := by omega
      go_wp2_with fail
      go_end0
      refine ⟨rfl, ?_, hb⟩
      unfold mendL
      rw [HL.out, ← hkL]
      exact hv
end Grd
end Go.Proofs.YtinhmklpnkikgabDoor
