/- The walk of mend. -/
import Derived.Test.YtinhmklpnkikgaaDoorPartE
import Derived.Lib.SliceRun
import Derived.Test.YtinhmklpnkikgaaDoorPartD
import Derived.Deep.MidRow
import Derived.Lib.QuietBelow
import Derived.BigQuiet
namespace Go.Proofs.YtinhmklpnkikgaaDoor
open Go.ChangeShapes Go.WideShapes Go.ChangeAt Go.RowKit
namespace Grd
def setR (cs : List C) (x : Nat) : List C := cs.set x (32, (cs.getD x z0).2)
def mendStep (cs : List C) (x : Nat) : List C := if loose cs x then setR cs x else cs
/-- A row after its first k cells are mended, from the left. -/
def mendTo (cs : List C) : Nat → List C
  | 0 => cs
  | k + 1 => mendStep (mendTo cs k) k
def mendL (cs : List C) : List C := mendTo cs cs.length
theorem mendStep_len (cs : List C) (x : Nat) : (mendStep cs x).length = cs.length := by
  unfold mendStep setR
  split <;> simp
theorem mendTo_len (cs : List C) : ∀ k, (mendTo cs k).length = cs.length
  | 0 => rfl
  | k + 1 => by
    show (mendStep (mendTo cs k) k).length = _
    rw [mendStep_len, mendTo_len cs k]
open Txt (wd)
/-- The second half of a wide rune looks as the first one does. -/
def Alike (cs : List C) : Prop := ∀ x, x + 1 < cs.length → wd (cs.getD x z0).1 = 2 → (cs.getD (x + 1) z0).1 = 0 → (cs.getD x z0).2 = (cs.getD (x + 1) z0).2
theorem setR_at (cs : List C) (x j : Nat) (hx : x < cs.length) : (setR cs x).getD j z0 = if j = x then (32, (cs.getD x z0).2) else cs.getD j z0 := by
  unfold setR
  simp only [List.getD, List.getElem?_set]
  by_cases h : j = x
  · subst h; simp [hx]
  · simp [h, Ne.symm h]
theorem alike_setR (cs : List C) (x : Nat) (hx : x < cs.length) (h : Alike cs) : Alike (setR cs x) := by
  intro j hj h2 h0
  have hl : (setR cs x).length = cs.length := by simp [setR]
  rw [hl] at hj
  rw [setR_at cs x j hx] at h2 ⊢
  rw [setR_at cs x (j + 1) hx] at h0 ⊢
  by_cases hjx : j = x
  · rw [if_pos hjx] at h2
    exact absurd (show wd 32 = 2 from h2) (by decide +kernel)
  · rw [if_neg hjx] at h2 ⊢
    by_cases hj1 : j + 1 = x
    · rw [if_pos hj1] at h0
      exact absurd (show (32 : Int) = 0 from h0) (by decide)
    · rw [if_neg hj1] at h0 ⊢
      exact h j hj h2 h0
theorem alike_to (cs : List C) (h : Alike cs) : ∀ k, k ≤ cs.length → Alike (mendTo cs k)
  | 0, _ => h
  | k + 1, hk => by
    show Alike (mendStep (mendTo cs k) k)
    unfold mendStep
    split
    · exact alike_setR _ k (by rw [mendTo_len]; omega) (alike_to cs h k (by omega))
    · exact alike_to cs h k (by omega)
theorem flat_set : ∀ (cs : List C) (x : Nat), x < cs.length → (flat cs).set (x * 4) (.int .i32 32) = flat (setR cs x)
  | c :: cs, 0, _ => by
    show (words c ++ flat cs).set 0 _ = flat ((32, c.2) :: cs)
    rfl
  | c :: cs, x + 1, h => by
    have ih := flat_set cs x (by simpa using h)
    show (words c ++ flat cs).set ((x + 1) * 4) _ = flat (setR (c :: cs) (x + 1))
    have e : setR (c :: cs) (x + 1) = c :: setR cs x := by simp [setR]
    rw [e]
    show _ = words c ++ flat (setR cs x)
    rw [← ih, List.set_append_right _ _ (by simp [words]; omega), show (x + 1) * 4 - (words c).length = x * 4 by simp [words]; omega]
theorem row_set (pre post : List Value) (cs : List C) (x : Nat) (h : x < cs.length) : (pre ++ (flat cs ++ post)).set (pre.length + x * 4) (.int .i32 32) = pre ++ (flat (setR cs x) ++ post) := by
  rw [List.set_append_right _ _ (by omega), Nat.add_sub_cancel_left, List.set_append_left _ _ (by rw [flat_len]; omega), flat_set cs x h]
/-- The row lies in block g behind 'pre'. -/
theorem cellsAt_mid {w : World} {g : Nat} {cs : List C} {pre post : List Value} {t : TypeId} (h : w.heap[g]? = some (.cells (pre ++ (flat cs ++ post)).toArray t (0, 0))) : CellsAt w g pre.length cs := fun j hj => by
  have key : ∀ i, i < 4 → w.cell? ⟨g, pre.length + j * 4 + i, none⟩ = (words (cs.getD j z0))[i]? := fun i hi => by
    rw [← flat_at cs j i hj hi]
    unfold World.cell?
    rw [h]
    have hl : j * 4 + i < (flat cs).length := by rw [flat_len]; omega
    simp only [List.getElem?_toArray]
    rw [Nat.add_assoc, List.getElem?_append_right (by omega), Nat.add_sub_cancel_left, List.getElem?_append_left hl]
    rfl
  exact ⟨key 0 (by omega), key 1 (by omega), key 2 (by omega), key 3 (by omega)⟩
theorem frozen_of {w : World} {g : Nat} {A : Array Value} {t : TypeId} (h : w.heap[g]? = some (.cells A t (0, 0))) (i : Nat) : w.frozen? ⟨g, i, none⟩ = false := by simp [World.frozen?, h]
set_option maxHeartbeats 2000000 in
theorem mend_any (g c : Nat) (cs : List C) (pre post : List Value) (t : TypeId) (w : World) (hh : w.heap[g]? = some (.cells (pre ++ (flat cs ++ post)).toArray t (0, 0))) (hn : cs.length ≤ 1000000) (hT : Txt.Tab w) (hg : 0 < g) (hA : Alike cs) :
    Calls Tryd.prog 45 #[.slice (some ⟨g, pre.length, none⟩) cs.length c] w fun e w' => e = .returned (.tuple #[]) ∧ w'.heap[g]? = some (.cells (pre ++ (flat (mendL cs) ++ post)).toArray t (0, 0)) ∧ Apart g [g] w w' := by
  have HT : Hid (∀ W, Apart g [g] w W → Txt.Tab W) := fun W b => hT.below b.1 hg
  have HG : Hid (g < w.heap.size) := blk_lt hh
  have HA : Hid (∀ k, k ≤ cs.length → Alike (mendTo cs k)) := alike_to cs hA
  clear hT hg hA
  generalize hl : cs.length = L at *
  have HL : Hid (cs.length = L) := hl
  clear hl
  generalize hp : pre.length = o at *
  have HP : Hid (pre.length = o) := hp
  clear hp
  go_enter Tryd.func45, Tryd.ntmps45
  go_wp2_with fail
  go_loopg [5] L (fun q i wr => ∃ k : Nat, i = .int .i64 (k : Int) ∧ k ≤ L ∧ L - k ≤ q ∧ Apart g [g] w wr ∧ wr.heap[g]? = some (.cells (pre ++ (flat (mendTo cs k) ++ post)).toArray t (0, 0)))
  case atStart => exact ⟨0, rfl, by omega, by omega, Apart.refl _ _ _, hh⟩
  case round =>
    obtain ⟨k, rfl, hk, hq, hb, hv⟩ := hrel
    clear hh
    have hlen : (mendTo cs k).length = L := by rw [mendTo_len, HL.out]
    by_cases hlt : k < L
    · have lt1 : ((k : Int) < (L : Int)) := by omega
      have hC : CellsAt wr g o (mendTo cs k) := by have := cellsAt_mid hv; rwa [HP.out] at this
      have hcell := (hC k (by rw [hlen]; exact hlt)).1
      have KL := isLoose_any g o c (mendTo cs k) k wr (HT.out wr hb) hC (by rw [hlen]; exact hlt) (by rw [hlen]; exact hn)
      rw [hlen] at KL
      cases hlo : loose (mendTo cs k) k with
      | false =>
        rw [hlo] at KL
        have HK : Hid (Calls Tryd.prog 55 #[.slice (some ⟨g, o, none⟩) L c, .int .i64 (k : Int)] wr fun e w' => e = .returned (.bool false) ∧ Below wr.heap.size wr w') := KL
        have HKP : Hid (∀ W, Below wr.heap.size wr W → Calls Tryd.prog 57 #[.slice (some ⟨g, o, none⟩) L c, .int .i64 (k : Int)] W fun e w' => e = .returned (.bool false) ∧ Below W.heap.size W w') := fun W bW => by
          have := parted_of g o c (mendTo cs k) k W (Tab.next (HT.out wr hb) bW) (hC.below bW) (by rw [hlen]; exact hlt) (by rw [hlen]; exact hn) hlo (HA.out k (by omega) k)
          rwa [hlen] at this
        have HE : Hid (mendTo cs (k + 1) = mendTo cs k) := by
          show mendStep (mendTo cs k) k = _
          unfold mendStep
          rw [hlo]
          rfl
        clear KL hlo hC hcell hlen
        go_wp2_with (first
          | (go_at_call 55; refine HK.out.mono ?_; rintro e W1 ⟨rfl, b1⟩)
          | (go_at_call 57; refine (HKP.out _ b1).mono ?_; rintro e W2 ⟨rfl, b2⟩; have b3 := b1.trans (b2.mono b1.size)))
        go_roundg (L - (k + 1))
        case measure => omega
        case rel => exact ⟨k + 1, rfl, by omega, by omega, hb.step b3 (Nat.le_of_lt (blk_lt hv)), by rw [HE.out]; exact carry hv b3⟩
      | true =>
        rw [hlo] at KL
        have HK : Hid (Calls Tryd.prog 55 #[.slice (some ⟨g, o, none⟩) L c, .int .i64 (k : Int)] wr fun e w' => e = .returned (.bool true) ∧ Below wr.heap.size wr w') := KL
        have HE : Hid (pre ++ (flat (mendTo cs (k + 1)) ++ post) = (pre ++ (flat (mendTo cs k) ++ post)).set (o + k * 4) (.int .i32 32)) := by
          have e : mendTo cs (k + 1) = setR (mendTo cs k) k := by
            show mendStep (mendTo cs k) k = _
            unfold mendStep
            rw [hlo]
            rfl
          unfold Hid
          rw [e, ← HP.out]
          exact (row_set pre post _ k (by rw [hlen]; exact hlt)).symm
        generalize ((mendTo cs k).getD k z0).1 = rr at hcell
        clear KL hlo hC hlen
        go_wp2_with (first | (go_at_call 55; refine HK.out.mono ?_; rintro e W1 ⟨rfl, b1⟩; have hcell1 := cell_keep b1 hcell; have hv1 := carry hv b1; have hfz : W1.frozen? ⟨g, o + k * 4, none⟩ = false := frozen_of hv1 _))
        go_roundg (L - (k + 1))
        case measure => omega
        case rel =>
          refine ⟨k + 1, rfl, by omega, by omega, (hb.step b1 (Nat.le_of_lt (blk_lt hv))).setCell g _ _ (by simp) (Nat.le_refl _), ?_⟩
          rw [HE.out]
          have := heap_setCell_same W1 g (o + k * 4) _ t (.int .i32 32) hv1
          simpa using this
    · have lt1 : ¬ ((k : Int) < (L : Int)) := by omega
      have hkL : k = L := by omega
      go_wp2_with fail
      go_end0
      refine ⟨rfl, ?_, hb⟩
      unfold mendL
      rw [HL.out, ← hkL]
      exact hv
end Grd
end Go.Proofs.YtinhmklpnkikgaaDoor

/- near, reach, holds, and the reference's limit. -/
namespace Go.Proofs.YtinhmklpnkikgaaDoor
open Go.ChangeShapes Go.WideShapes Go.ChangeAt Go.RowKit
namespace Grd
theorem min2 (a b : Int) (w : World) : (Builtin.min_ #[3, 3] 3 #[.int .i64 a, .int .i64 b]).run Tryd.prog w = .ok (.int .i64 (min a b)) w := by
  simp [Builtin.min_, Builtin.min2, go_sem]
  repeat' split
  all_goals omega
theorem max2 (a b : Int) (w : World) : (Builtin.max_ #[3, 3] 3 #[.int .i64 a, .int .i64 b]).run Tryd.prog w = .ok (.int .i64 (max a b)) w := by
  simp [Builtin.max_, Builtin.max2, go_sem]
  repeat' split
  all_goals omega
def nearI (n : Int) : Int := min (max n (-1000)) 1000
theorem near_any (n : Int) (w : World) :
    Calls Tryd.prog 44 #[.int .i64 n] w fun e w' => e = .returned (.int .i64 (nearI n)) ∧ w = w' := by
  have h1 := max2 n (-1000)
  have h2 := min2 (max n (-1000)) 1000
  go_enter Tryd.func44, Tryd.ntmps44
  go_wp2_with fail
  go_ret
  exact ⟨rfl, rfl⟩
theorem reach_any (p l s : Int) (w : World) (h0 : -2000 ≤ p) (h1 : p ≤ 2000) (h2 : -2000 ≤ l) (h3 : l ≤ 2000) :
    Calls Tryd.prog 43 #[.int .i64 p, .int .i64 l, .int .i64 s] w fun e w' => e = .returned (.tuple #[.int .i64 (max p 0), .int .i64 (min (p + l) s)]) ∧ w = w' := by
  have e1 := max2 p 0
  have e2 := min2 (p + l) s
  go_enter Tryd.func43, Tryd.ntmps43
  go_wp2_with fail
  go_ret2
  exact ⟨rfl, rfl⟩
def limitI (n : Int) : Int := max (-1000) (min n 1000)
theorem limit_any (n : Int) (w : World) :
    Calls Tryd.prog 46 #[.int .i64 n] w fun e w' => e = .returned (.int .i64 (limitI n)) ∧ w = w' := by
  have h1 := min2 n 1000
  have h2 := max2 (-1000) (min n 1000)
  go_enter Tryd.func46, Tryd.ntmps46
  go_wp2_with fail
  go_ret
  exact ⟨rfl, rfl⟩
theorem limit_near (n : Int) : limitI n = nearI n := by unfold limitI nearI; omega
end Grd
end Go.Proofs.YtinhmklpnkikgaaDoor

/- slices.Clone of cells. -/
namespace Go.Proofs.YtinhmklpnkikgaaDoor
open Go.ChangeShapes Go.WideShapes Go.ChangeAt Go.RowKit
namespace Grd
theorem own_of_row {w : World} {base : Nat} {v : Value} {cs : List C} (h : w.ownsRow base 40 4 v cs.length (flat cs)) (hn : v ≠ .slice none 0 0) : OwnG w base v cs := by
  obtain ⟨_, h | ⟨g, cap, cur, hv, hg, hh, hc, hm, hs, htk⟩⟩ := h
  · exact absurd h.1 hn
  · refine ⟨g, cap, cur.toList.drop (cs.length * 4), ⟨40, rfl⟩, hv, hg, hc, by unfold maxLen at hm; omega, ?_⟩
    rw [hh, ← htk, List.take_append_drop]
theorem cellsAt_src {w : World} {b o : Nat} {cs : List C} (h : CellsAt w b o cs) : ∀ j u, (flat cs)[j]? = some u → w.cell? ((⟨b, o, none⟩ : Addr).add j) = some u := by
  intro j u hj
  have hlt := (List.getElem?_eq_some_iff.1 hj).1
  rw [flat_len] at hlt
  have hd : j / 4 < cs.length := by omega
  have hm : j % 4 < 4 := by omega
  have e : j = j / 4 * 4 + j % 4 := by omega
  rw [e, flat_at cs (j / 4) (j % 4) hd hm] at hj
  obtain ⟨h0, h1, h2, h3⟩ := h (j / 4) hd
  rw [add_plain, show o + j = o + j / 4 * 4 + j % 4 by omega, ← hj]
  generalize j / 4 = d at *
  rcases (show j % 4 = 0 ∨ j % 4 = 1 ∨ j % 4 = 2 ∨ j % 4 = 3 by omega) with hq | hq | hq | hq <;> rw [hq]
  · exact h0
  · exact h1
  · exact h2
  · exact h3
set_option maxHeartbeats 1000000 in
theorem clone_cells (b o c : Nat) (cs : List C) (w : World) (hC : CellsAt w b o cs) (hbig : cs.length * 32 ≤ 140737488355328) :
    Calls Tryd.prog 39 #[.slice (some ⟨b, o, none⟩) cs.length c] w fun e w' => ∃ v', e = .returned v' ∧ OwnG w' w.heap.size v' cs ∧ Below w.heap.size w w' := by
  obtain ⟨i0, hi, hzz⟩ := Option.map_eq_some_iff.1 info_cell
  simp only [Prod.mk.injEq] at hzz
  obtain ⟨hz0, hz1, hz2⟩ := hzz
  have kb : Below w.heap.size w (w.alloc (.cells #[] 40)) := (Below.refl _ _).alloc (Nat.le_refl _) _
  have HS : Hid (∀ j u, (flat cs)[j]? = some u → (w.alloc (.cells #[] 40)).cell? ((⟨b, o, none⟩ : Addr).add j) = some u) := cellsAt_src (hC.below kb)
  have HF : Hid ((flat cs).length = cs.length * 4) := flat_len cs
  have HO : Hid (∀ u ∈ flat cs, u.oneCell' = true) := flat_one cs
  have qn : ∀ (w : World) (a : Option Addr) (n c n' c' : Nat), (binOp .eql 22 (.slice a n c) (.slice none n' c')).run Tryd.prog w = .ok (.bool a.isNone) w := fun w a n c n' c' => Lib.run_eql_slice_nil w _ _ a n c n' c' und_cells
  clear hC
  go_enter Tryd.func39, Tryd.ntmps39
  go_wp2_with (at_builtin; refine wpList_append_own _ rfl _ _ 22 rfl w.heap.size 40 i0 (.agg #[.int .i32 0, .int .i64 0, .int .i64 0, .int .i64 0]) 4 32 und_cells hi hz0 hz1 hz2 rfl (by decide) _ _ _ rfl (World.ownsRow_made w #[] 0 (Nat.le_refl _) (Nat.zero_le _) rfl) ⟨b, o, none⟩ cs.length c (flat cs) rfl HF.out HS.out HO.out ?qc4 ?qc5 ?qc6 ?_)
  case qc4 => unfold maxLen; omega
  case qc5 => omega
  case qc6 => simp
  intro v' w1 hown hgrow hnil
  go_wp2_with fail
  go_ret
  exact ⟨v', rfl, own_of_row hown hnil, ((Below.refl _ w).alloc (Nat.le_refl _) _).grown hgrow (by simp) (by intro k hk; simp [Value.ownBlock] at hk; omega)⟩
end Grd
end Go.Proofs.YtinhmklpnkikgaaDoor

/- copyOf, holds. -/
namespace Go.Proofs.YtinhmklpnkikgaaDoor
open Go.ChangeShapes Go.WideShapes Go.ChangeAt Go.RowKit
namespace Grd
set_option maxHeartbeats 1000000 in
theorem copyOf_any (a h : Int) (b o c : Nat) (cs : List C) (w : World) (hC : CellsAt w b o cs) (hbig : cs.length * 32 ≤ 140737488355328) :
    Calls Tryd.prog 42 #[.agg #[.int .i64 a, .int .i64 h, .slice (some ⟨b, o, none⟩) cs.length c]] w fun e w' => ∃ v', e = .returned (.agg #[.int .i64 a, .int .i64 h, v']) ∧ OwnG w' w.heap.size v' cs ∧ Below w.heap.size w w' := by
  have HC : Hid (CellsAt w b o cs) := hC
  clear hC
  have kk : Below w.heap.size w ((w.alloc (.cells #[.int .i64 a, .int .i64 h, .slice (some ⟨b, o, none⟩) cs.length c] 24)).alloc (.cells #[.int .i64 0, .int .i64 0, .slice none 0 0] 24)) := ((Below.refl _ _).alloc (Nat.le_refl _) _).alloc (by simp) _
  have x0 : ((w.alloc (.cells #[.int .i64 a, .int .i64 h, .slice (some ⟨b, o, none⟩) cs.length c] 24)).alloc (.cells #[.int .i64 0, .int .i64 0, .slice none 0 0] 24)).heap[w.heap.size]? = some (.cells #[.int .i64 a, .int .i64 h, .slice (some ⟨b, o, none⟩) cs.length c] 24 (0, 0)) := (Below.heap_alloc _ _ _ (by simp)).trans (heap_alloc_new _ _)
  have x1 : ((w.alloc (.cells #[.int .i64 a, .int .i64 h, .slice (some ⟨b, o, none⟩) cs.length c] 24)).alloc (.cells #[.int .i64 0, .int .i64 0, .slice none 0 0] 24)).heap[w.heap.size + 1]? = some (.cells #[.int .i64 0, .int .i64 0, .slice none 0 0] 24 (0, 0)) := heap_alloc2_new w _ _
  have hs0 : ((w.alloc (.cells #[.int .i64 a, .int .i64 h, .slice (some ⟨b, o, none⟩) cs.length c] 24)).alloc (.cells #[.int .i64 0, .int .i64 0, .slice none 0 0] 24)).heap.size = w.heap.size + 2 := by simp
  go_enter Tryd.func42, Tryd.ntmps42
  go_wp2_with fail
  refine (clone_cells b o c cs _ (HC.out.below kk) hbig).mono ?_
  rintro e W2 ⟨v, rfl, ⟨g, cap, rest, t, rfl, hgb, hlc, hcm, hgh⟩, b2⟩
  have y0 := carry x0 b2
  have y1 := carry x1 b2
  have ⟨d0, d1, d2, df⟩ := cells3 y0
  have f2 := df 2
  have z0' := heap_setCell_same W2 w.heap.size 2 _ _ (.slice (some ⟨g, 0, none⟩) cs.length cap) y0
  have z1' := (heap_setCell_other W2 ⟨w.heap.size, 2, none⟩ (w.heap.size + 1) (.slice (some ⟨g, 0, none⟩) cs.length cap) (Nat.succ_ne_self _)).trans y1
  go_wp2_with (first
    | (refine wpList_load_row rfl 24 _ rfl w.heap.size rfl _ _ _ _ z0' Tryd.underlying24 rfl (by kernel_rfl) ?_)
    | (refine wpList_store_row rfl 24 (.tmp 2) _ rfl (w.heap.size + 1) #[.int .i64 a, .int .i64 h, .slice (some ⟨g, 0, none⟩) cs.length cap] rfl rfl _ _ z1' (by kernel_rfl) rfl (one3v _ _ _ _ _) ?_))
  (try simp only [Exit.inBlock, Exit.then])
  have hg2 : w.heap.size + 2 ≤ g := by rw [← hs0]; exact hgb
  refine bodyPost_ret (v := .agg #[.int .i64 a, .int .i64 h, .slice (some ⟨g, 0, none⟩) cs.length cap]) ?_ rfl ⟨_, rfl, ⟨g, cap, rest, t, rfl, by omega, hlc, hcm, ?_⟩, below_setRow ((kk.trans (b2.mono kk.size)).setCell (Nat.le_refl _) _) (by omega) _⟩
  · exact results_cell_row rfl _ _ (w.heap.size + 1) _ _ _ _ rfl (setRow_heap _ _ _ _ _ _ z1') Tryd.underlying24 rfl (by kernel_rfl)
  · rw [setRow_other _ _ _ _ (by omega), heap_setCell_other _ _ _ _ (by dsimp only; omega)]
    exact hgh
end Grd
end Go.Proofs.YtinhmklpnkikgaaDoor

/- What the reference's CheckGrid says, over lists: the same as grid.Check. -/
namespace Go.Proofs.YtinhmklpnkikgaaDoor
namespace Grd
open Txt (wd)
open Sty (isSt)
/-- What the reference says of the cell i of a grid of width n. -/
def cellR (n : Nat) (cs : List C) (i : Nat) : Int :=
  if ((cs.getD i z0).1 ≠ 0 ∧ wd (cs.getD i z0).1 = 0) ∨ isSt (cs.getD i z0).2 = false then 4
  else if (cs.getD i z0).1 = 0 ∧ (i % n = 0 ∨ wd (cs.getD (i - 1) z0).1 ≠ 2 ∨ (cs.getD (i - 1) z0).2 ≠ (cs.getD i z0).2) then 5
  else if wd (cs.getD i z0).1 = 2 ∧ (i % n + 1 = n ∨ (cs.getD (i + 1) z0).1 ≠ 0) then 5 else 0
theorem first_append (f : Nat → Int) : ∀ (a k b : Nat), firstErr f k (a + b) = if firstErr f k a = 0 then firstErr f (k + a) b else firstErr f k a
  | 0, k, b => by simp [firstErr]
  | a + 1, k, b => by
    rw [show a + 1 + b = (a + b) + 1 by omega]
    show (if f k = 0 then firstErr f (k + 1) (a + b) else f k) = if (if f k = 0 then firstErr f (k + 1) a else f k) = 0 then firstErr f (k + (a + 1)) b else (if f k = 0 then firstErr f (k + 1) a else f k)
    by_cases h : f k = 0
    · simp only [if_pos h]
      rw [first_append f a (k + 1) b, show k + 1 + a = k + (a + 1) by omega]
    · simp only [if_neg h]
theorem first_congr (f g : Nat → Int) : ∀ (m k j : Nat), (∀ i, i < m → f (k + i) = g (j + i)) → firstErr f k m = firstErr g j m
  | 0, _, _, _ => rfl
  | m + 1, k, j, h => by
    have h0 := h 0 (by omega)
    simp only [Nat.add_zero] at h0
    have ih := first_congr f g m (k + 1) (j + 1) (fun i hi => by
      have := h (i + 1) (by omega)
      rwa [show k + (i + 1) = k + 1 + i by omega, show j + (i + 1) = j + 1 + i by omega] at this)
    show (if f k = 0 then firstErr f (k + 1) m else f k) = if g j = 0 then firstErr g (j + 1) m else g j
    rw [h0, ih]
theorem first_flat (f : Nat → Int) (g : Nat → Int) (n : Nat) : ∀ (m : Nat), (∀ y, y < m → f y = firstErr g (y * n) n) → firstErr f 0 m = firstErr g 0 (n * m)
  | 0, _ => rfl
  | m + 1, h => by
    have ih := first_flat f g n m (fun y hy => h y (by omega))
    rw [first_append f m 0 1, Nat.mul_add, first_append g (n * m) 0 (n * 1), ih, Nat.zero_add, Nat.zero_add, Nat.mul_one, Nat.mul_comm n m, ← h m (by omega)]
    have : firstErr f m 1 = f m := by
      show (if f m = 0 then 0 else f m) = f m
      split
      · rename_i h; exact h.symm
      · rfl
    rw [this]
theorem wd0 : wd 0 = 0 := by decide +kernel
theorem cell_same (n hh : Nat) (cs : List C) (hL : cs.length = n * hh) (y x : Nat) (hy : y < hh) (hx : x < n) : cellErr (rowAt n cs y) x = cellR n cs (y * n + x) := by
  have hf : (y + 1) * n ≤ n * hh := by rw [Nat.mul_comm n hh]; exact Nat.mul_le_mul_right _ hy
  rw [Nat.add_mul, Nat.one_mul] at hf
  have hlen : (rowAt n cs y).length = n := by
    unfold rowAt
    rw [List.length_take, List.length_drop, hL]
    omega
  have hg : ∀ j, j < n → (rowAt n cs y).getD j z0 = cs.getD (y * n + j) z0 := fun j hj => by
    unfold rowAt
    rw [getD_take _ _ _ hj, getD_drop]
  have hmod : (y * n + x) % n = x := by
    rw [Nat.mul_comm, Nat.mul_add_mod]
    exact Nat.mod_eq_of_lt hx
  unfold cellErr cellR loose
  rw [hlen, hg x hx, hmod]
  generalize cs.getD (y * n + x) z0 = c at *
  by_cases h4 : (c.1 ≠ 0 ∧ wd c.1 = 0) ∨ isSt c.2 = false
  · rw [if_pos h4, if_pos h4]
  · rw [if_neg h4, if_neg h4]
    by_cases hr : c.1 = 0
    · rw [if_pos hr]
      have w0 : ¬ wd c.1 = 2 := by rw [hr, wd0]; omega
      by_cases hx0 : x = 0
      · rw [if_pos (by simp [hx0]), if_pos ⟨hr, Or.inl hx0⟩]
      · rw [hg (x - 1) (by omega), show y * n + (x - 1) = y * n + x - 1 by omega]
        generalize cs.getD (y * n + x - 1) z0 = p at *
        by_cases hq : wd p.1 ≠ 2 ∨ p.2 ≠ c.2
        · rw [if_pos, if_pos ⟨hr, Or.inr hq⟩]
          rcases hq with hq | hq
          · left; simp [hq]
          · right; exact ⟨hr, fun e => hq e.symm⟩
        · rw [if_neg, if_neg (fun h => hq (h.2.resolve_left hx0)), if_neg (fun h => w0 h.1)]
          rintro (h | h)
          · simp [hx0] at h
            exact hq (Or.inl h)
          · exact hq (Or.inr (fun e => h.2 e.symm))
    · rw [if_neg hr, if_neg (show ¬ (c.1 = 0 ∧ (x = 0 ∨ wd (cs.getD (y * n + x - 1) z0).1 ≠ 2 ∨ (cs.getD (y * n + x - 1) z0).2 ≠ c.2)) from fun h => hr h.1)]
      by_cases hl : x + 1 = n
      · by_cases h2 : wd c.1 = 2
        · rw [if_pos (by left; simp [h2, hl]), if_pos ⟨h2, Or.inl hl⟩]
        · rw [if_neg, if_neg (fun h => h2 h.1)]
          rintro (h | h)
          · simp [h2] at h
          · exact hr h.1
      · rw [hg (x + 1) (by omega), show y * n + (x + 1) = y * n + x + 1 by omega]
        generalize cs.getD (y * n + x + 1) z0 = q at *
        by_cases h2 : wd c.1 = 2 ∧ q.1 ≠ 0
        · rw [if_pos (by left; simp [h2.1, h2.2]), if_pos ⟨h2.1, Or.inr h2.2⟩]
        · rw [if_neg, if_neg (fun h => h2 ⟨h.1, h.2.resolve_left hl⟩)]
          rintro (h | h)
          · simp [hl] at h
            exact h2 h
          · exact hr h.1
/-- grid.Check and the reference's CheckGrid say the same. -/
theorem errs_same (n hh : Nat) (cs : List C) (hL : cs.length = n * hh) : firstErr (fun y => rowErr (rowAt n cs y)) 0 hh = firstErr (cellR n cs) 0 (n * hh) := by
  refine first_flat _ _ n hh (fun y hy => ?_)
  have hf : (y + 1) * n ≤ n * hh := by rw [Nat.mul_comm n hh]; exact Nat.mul_le_mul_right _ hy
  rw [Nat.add_mul, Nat.one_mul] at hf
  have hlen : (rowAt n cs y).length = n := by
    unfold rowAt
    rw [List.length_take, List.length_drop, hL]
    omega
  show rowErr (rowAt n cs y) = _
  unfold rowErr
  rw [hlen]
  exact first_congr _ _ n 0 (y * n) (fun i hi => by rw [Nat.zero_add]; exact cell_same n hh cs hL y i hy hi)
end Grd
end Go.Proofs.YtinhmklpnkikgaaDoor

/- Plain mathematics on the rows of a grid: parts of a row set, rows one behind the other, mending, what is a right row. -/
namespace Go.Proofs.YtinhmklpnkikgaaDoor
namespace Grd
open Txt (wd)
open Sty (isSt)
theorem wd32 : wd 32 = 1 := by decide +kernel
theorem wd_nonneg (r : Int) : 0 ≤ wd r := (Txt.wd_range r).1
/-- A row with the cells at which p holds set to f. -/
def putRow (row : List C) (p : Nat → Bool) (f : Nat → C) : List C := (List.range row.length).map fun x => if p x then f x else row.getD x z0
theorem putRow_len (row : List C) (p : Nat → Bool) (f : Nat → C) : (putRow row p f).length = row.length := by simp [putRow]
theorem putRow_at (row : List C) (p : Nat → Bool) (f : Nat → C) (x : Nat) (hx : x < row.length) : (putRow row p f).getD x z0 = if p x then f x else row.getD x z0 := by
  simp [putRow, List.getD, hx]
theorem ext_getD (a b : List C) (hl : a.length = b.length) (h : ∀ x, x < a.length → a.getD x z0 = b.getD x z0) : a = b := by
  refine List.ext_getElem hl fun i h1 h2 => ?_
  have := h i h1
  simp only [List.getD, List.getElem?_eq_getElem h1, List.getElem?_eq_getElem h2, Option.getD_some] at this
  exact this
theorem getD_set (cs : List C) (x : Nat) (c : C) (j : Nat) (hx : x < cs.length) : (cs.set x c).getD j z0 = if j = x then c else cs.getD j z0 := by
  simp only [List.getD, List.getElem?_set]
  by_cases h : j = x
  · subst h; simp [hx]
  · simp [h, Ne.symm h]
theorem putRow_none (row : List C) (p : Nat → Bool) (f : Nat → C) (h : ∀ x, x < row.length → p x = false) : putRow row p f = row :=
  ext_getD _ _ (putRow_len _ _ _) fun x hx => by
    rw [putRow_len] at hx
    rw [putRow_at _ _ _ _ hx, h x hx]; rfl
theorem putRow_congr (row : List C) (p q : Nat → Bool) (f g : Nat → C) (h : ∀ x, x < row.length → p x = q x ∧ (p x = true → f x = g x)) : putRow row p f = putRow row q g :=
  ext_getD _ _ (by rw [putRow_len, putRow_len]) fun x hx => by
    rw [putRow_len] at hx
    rw [putRow_at _ _ _ _ hx, putRow_at _ _ _ _ hx, ← (h x hx).1]
    by_cases hp : p x = true
    · rw [if_pos hp, if_pos hp, (h x hx).2 hp]
    · rw [if_neg hp, if_neg hp]
/-- One more cell set. -/
theorem putRow_set (row : List C) (p q : Nat → Bool) (f : Nat → C) (k : Nat) (hk : k < row.length) (hq : ∀ x, x < row.length → q x = (p x || decide (x = k))) : (putRow row p f).set k (f k) = putRow row q f :=
  ext_getD _ _ (by simp [putRow_len]) fun x hx => by
    rw [List.length_set, putRow_len] at hx
    rw [getD_set _ _ _ _ (by rw [putRow_len]; exact hk), putRow_at _ _ _ _ hx, putRow_at _ _ _ _ hx, hq x hx]
    by_cases h : x = k
    · subst h; simp
    · simp [h]
/-- The rows below k, each as f makes it, one behind the other. -/
def preF (n : Nat) (cs : List C) (f : Nat → List C → List C) : Nat → List C
  | 0 => []
  | k + 1 => preF n cs f k ++ f k (rowAt n cs k)
def KeepLen (n : Nat) (f : Nat → List C → List C) : Prop := ∀ y row, row.length = n → (f y row).length = n
theorem preF_len (n hh : Nat) (cs : List C) (f : Nat → List C → List C) (hL : cs.length = n * hh) (hf : KeepLen n f) : ∀ k, k ≤ hh → (preF n cs f k).length = k * n
  | 0, _ => by simp [preF]
  | k + 1, h => by
    show (preF n cs f k ++ f k (rowAt n cs k)).length = _
    rw [List.length_append, preF_len n hh cs f hL hf k (by omega), hf _ _ (row_len n hh cs k hL (by omega)), Nat.add_mul, Nat.one_mul]
theorem drop_row (n : Nat) (cs : List C) (k : Nat) : cs.drop (k * n) = rowAt n cs k ++ cs.drop ((k + 1) * n) := by
  unfold rowAt
  rw [Nat.add_mul, Nat.one_mul, ← List.drop_drop, List.take_append_drop]
theorem take_row (n : Nat) (cs : List C) (k : Nat) : cs.take ((k + 1) * n) = cs.take (k * n) ++ rowAt n cs k := by
  unfold rowAt
  rw [Nat.add_mul, Nat.one_mul, List.take_add]
theorem preF_id (n : Nat) (cs : List C) (f : Nat → List C → List C) : ∀ k, (∀ y, y < k → f y (rowAt n cs y) = rowAt n cs y) → preF n cs f k = cs.take (k * n)
  | 0, _ => by simp [preF]
  | k + 1, h => by
    show preF n cs f k ++ f k (rowAt n cs k) = _
    rw [preF_id n cs f k (fun y hy => h y (by omega)), h k (by omega), take_row]
theorem preF_congr (n : Nat) (cs : List C) (f g : Nat → List C → List C) : ∀ k, (∀ y, y < k → f y (rowAt n cs y) = g y (rowAt n cs y)) → preF n cs f k = preF n cs g k
  | 0, _ => rfl
  | k + 1, h => by
    show preF n cs f k ++ f k (rowAt n cs k) = preF n cs g k ++ g k (rowAt n cs k)
    rw [preF_congr n cs f g k (fun y hy => h y (by omega)), h k (by omega)]
theorem preF_rest (n hh : Nat) (cs : List C) (f : Nat → List C → List C) (hL : cs.length = n * hh) (k : Nat) : ∀ m, k + m = hh → (∀ y, k ≤ y → y < hh → f y (rowAt n cs y) = rowAt n cs y) → preF n cs f hh = preF n cs f k ++ cs.drop (k * n) := by
  have key : ∀ m, k + m ≤ hh → (∀ y, k ≤ y → y < hh → f y (rowAt n cs y) = rowAt n cs y) → preF n cs f (k + m) ++ cs.drop ((k + m) * n) = preF n cs f k ++ cs.drop (k * n) := by
    intro m
    induction m with
    | zero => intro _ _; rfl
    | succ m ih =>
      intro h hid
      rw [← ih (by omega) hid, drop_row n cs (k + m)]
      show (preF n cs f (k + m) ++ f (k + m) (rowAt n cs (k + m))) ++ _ = _
      rw [hid (k + m) (by omega) (by omega), List.append_assoc]
      rfl
  intro m hm hid
  have := key m (by omega) hid
  rw [hm] at this
  rw [← this, List.drop_of_length_le (by rw [hL, Nat.mul_comm]; exact Nat.le_refl _), List.append_nil]
theorem rowAt_preF (n hh : Nat) (cs : List C) (f : Nat → List C → List C) (hL : cs.length = n * hh) (hf : KeepLen n f) (y : Nat) : ∀ k, y < k → k ≤ hh → rowAt n (preF n cs f k) y = f y (rowAt n cs y)
  | 0, h, _ => by omega
  | k + 1, h, hk => by
    have hlen := preF_len n hh cs f hL hf k (by omega)
    by_cases he : y = k
    · subst he
      unfold rowAt
      show ((preF n cs f y ++ f y (rowAt n cs y)).drop (y * n)).take n = _
      rw [List.drop_left' hlen, List.take_of_length_le (by rw [hf _ _ (row_len n hh cs y hL (by omega))]; exact Nat.le_refl _)]
      rfl
    · have ih := rowAt_preF n hh cs f hL hf y k (by omega) (by omega)
      unfold rowAt at ih ⊢
      show ((preF n cs f k ++ f k (rowAt n cs k)).drop (y * n)).take n = _
      have : (y + 1) * n ≤ k * n := Nat.mul_le_mul_right _ (by omega)
      rw [Nat.add_mul, Nat.one_mul] at this
      rw [List.drop_append_of_le_length (by omega), List.take_append_of_le_length (by rw [List.length_drop]; omega), ih]
/-- Mending, each cell by what stood there: the order makes no difference. -/
def mendM (cs : List C) : List C := (List.range cs.length).map fun x => if loose cs x then (32, (cs.getD x z0).2) else cs.getD x z0
theorem mendM_len (cs : List C) : (mendM cs).length = cs.length := by simp [mendM]
theorem mendM_at (cs : List C) (x : Nat) (hx : x < cs.length) : (mendM cs).getD x z0 = if loose cs x then (32, (cs.getD x z0).2) else cs.getD x z0 := by
  simp [mendM, List.getD, hx]
theorem mendTo_at (cs : List C) : ∀ k, k ≤ cs.length → ∀ x, x < cs.length → (mendTo cs k).getD x z0 = if x < k ∧ loose cs x = true then (32, (cs.getD x z0).2) else cs.getD x z0
  | 0, _, x, hx => by simp [mendTo]
  | k + 1, hk, x, hx => by
    have ih := mendTo_at cs k (by omega)
    have hl := mendTo_len cs k
    have ek : (mendTo cs k).getD k z0 = cs.getD k z0 := by rw [ih k (by omega), if_neg (by simp)]
    have hlo : loose (mendTo cs k) k = loose cs k := by
      unfold loose
      rw [ek, hl]
      by_cases hr : (cs.getD k z0).1 = 0
      · rw [if_pos hr, if_pos hr]
        by_cases h0 : k = 0
        · simp [h0]
        · have e : (wd ((mendTo cs k).getD (k - 1) z0).1 ≠ 2) = (wd (cs.getD (k - 1) z0).1 ≠ 2) := by
            rw [ih (k - 1) (by omega)]
            by_cases hq : loose cs (k - 1) = true
            · rw [if_pos ⟨by omega, hq⟩]
              have : wd (cs.getD (k - 1) z0).1 ≠ 2 := by
                intro h2
                unfold loose at hq
                have hn : ¬ (cs.getD (k - 1) z0).1 = 0 := by intro h; rw [h, wd0] at h2; omega
                rw [if_neg hn] at hq
                simp only [Bool.and_eq_true, Bool.or_eq_true, decide_eq_true_eq] at hq
                rcases hq.2 with h | h
                · omega
                · rw [show k - 1 + 1 = k by omega] at h; exact h hr
              simp [this, wd32, -List.getD_eq_getElem?_getD]
            · rw [if_neg (fun h => hq h.2)]
          simp only [e]
      · rw [if_neg hr, if_neg hr]
        by_cases hl2 : k + 1 = cs.length
        · simp [hl2]
        · rw [ih (k + 1) (by omega), if_neg (by omega)]
    show (mendStep (mendTo cs k) k).getD x z0 = _
    unfold mendStep
    rw [hlo]
    by_cases hlk : loose cs k = true
    · rw [if_pos hlk]
      unfold setR
      rw [getD_set _ _ _ _ (by rw [hl]; omega), ek]
      by_cases hxk : x = k
      · subst hxk; simp [hlk]
      · rw [if_neg hxk, ih x hx]
        by_cases hc : x < k ∧ loose cs x = true
        · rw [if_pos hc, if_pos ⟨by omega, hc.2⟩]
        · rw [if_neg hc, if_neg (fun h => hc ⟨by omega, h.2⟩)]
    · rw [if_neg hlk, ih x hx]
      by_cases hc : x < k ∧ loose cs x = true
      · rw [if_pos hc, if_pos ⟨by omega, hc.2⟩]
      · rw [if_neg hc, if_neg (fun h => hc ⟨by
          have := h.1
          rcases Nat.lt_or_ge x k with h' | h'
          · exact h'
          · exfalso
            obtain rfl : x = k := by omega
            exact hlk h.2, h.2⟩)]
theorem mendL_eq (cs : List C) : mendL cs = mendM cs :=
  ext_getD _ _ (by rw [mendM_len]; exact mendTo_len _ _) fun x hx => by
    unfold mendL at hx ⊢
    rw [mendTo_len] at hx
    rw [mendTo_at cs _ (Nat.le_refl _) x hx, mendM_at cs x hx]
    by_cases h : loose cs x = true
    · rw [if_pos ⟨hx, h⟩, if_pos h]
    · rw [if_neg (fun q => h q.2), if_neg h]
theorem mendL_len (cs : List C) : (mendL cs).length = cs.length := mendTo_len _ _
theorem mendL_fix (cs : List C) (h : ∀ x, x < cs.length → loose cs x = false) : mendL cs = cs := by
  rw [mendL_eq]
  refine ext_getD _ _ (mendM_len _) fun x hx => ?_
  rw [mendM_len] at hx
  rw [mendM_at cs x hx, h x hx]; rfl
/-- What a row must be so that mending makes a right one of it. -/
def Meant (row : List C) : Prop := ∀ x, x < row.length → ((row.getD x z0).1 ≠ 0 → wd (row.getD x z0).1 ≠ 0) ∧ isSt (row.getD x z0).2 = true ∧
  ((row.getD x z0).1 = 0 → 0 < x → wd (row.getD (x - 1) z0).1 = 2 → (row.getD x z0).2 = (row.getD (x - 1) z0).2)
theorem Meant.alike {row : List C} (h : Meant row) : Alike row := fun x hx h2 h0 => ((h (x + 1) hx).2.2 h0 (by omega) h2).symm
def RightRow (row : List C) : Prop := Meant row ∧ ∀ x, x < row.length → loose row x = false
theorem mend_right (row : List C) (h : Meant row) : RightRow (mendL row) := by
  rw [mendL_eq]
  have hst : ∀ x, x < row.length → ((mendM row).getD x z0).2 = (row.getD x z0).2 := fun x hx => by
    rw [mendM_at row x hx]; split <;> rfl
  have hz : ∀ x, x < row.length → ((mendM row).getD x z0).1 = 0 → (row.getD x z0).1 = 0 ∧ loose row x = false := fun x hx h0 => by
    rw [mendM_at row x hx] at h0
    by_cases hl : loose row x = true
    · rw [if_pos hl] at h0; exact absurd (show (32 : Int) = 0 from h0) (by decide)
    · rw [if_neg hl] at h0; exact ⟨h0, by simpa using hl⟩
  have hw : ∀ x, x < row.length → wd ((mendM row).getD x z0).1 = 2 → wd (row.getD x z0).1 = 2 ∧ loose row x = false := fun x hx h0 => by
    rw [mendM_at row x hx] at h0
    by_cases hl : loose row x = true
    · rw [if_pos hl] at h0; dsimp only at h0; rw [wd32] at h0; exact absurd h0 (by decide)
    · rw [if_neg hl] at h0; exact ⟨h0, by simpa using hl⟩
  refine ⟨fun x hx => ?_, fun x hx => ?_⟩
  · rw [mendM_len] at hx
    refine ⟨fun _ => ?_, ?_, fun h0 hp h2 => ?_⟩
    · rw [mendM_at row x hx] at *
      by_cases hl : loose row x = true
      · rw [if_pos hl]; dsimp only; rw [wd32]; decide
      · rename_i hne
        rw [if_neg hl] at hne ⊢
        exact (h x hx).1 hne
    · rw [hst x hx]; exact (h x hx).2.1
    · rw [hst x hx, hst (x - 1) (by omega)]
      exact (h x hx).2.2 (hz x hx h0).1 hp (hw (x - 1) (by omega) h2).1
  · rw [mendM_len] at hx
    unfold loose
    by_cases hr : ((mendM row).getD x z0).1 = 0
    · rw [if_pos hr]
      obtain ⟨h0, hl⟩ := hz x hx hr
      unfold loose at hl
      rw [if_pos h0] at hl
      simp only [Bool.or_eq_false_iff, decide_eq_false_iff_not, Decidable.not_not] at hl
      have hnl : loose row (x - 1) = false := by
        unfold loose
        have hn : ¬ (row.getD (x - 1) z0).1 = 0 := by intro h; rw [h, wd0] at hl; exact absurd hl.2 (by decide)
        rw [if_neg hn, show x - 1 + 1 = x by omega, h0]
        simp
        intro _; omega
      rw [mendM_at row (x - 1) (by omega), hnl]
      simp [hl.1, hl.2, -List.getD_eq_getElem?_getD]
    · rw [if_neg hr]
      by_cases h2 : wd ((mendM row).getD x z0).1 = 2
      · obtain ⟨hw2, hl⟩ := hw x hx h2
        have hn : ¬ (row.getD x z0).1 = 0 := by intro h; rw [h, wd0] at hw2; exact absurd hw2 (by decide)
        unfold loose at hl
        rw [if_neg hn] at hl
        simp only [hw2, decide_true, Bool.true_and, Bool.or_eq_false_iff, decide_eq_false_iff_not, Decidable.not_not] at hl
        have hnl : loose row (x + 1) = false := by
          unfold loose
          rw [if_pos hl.2]
          simp [hw2, -List.getD_eq_getElem?_getD]
        rw [mendM_len, mendM_at row (x + 1) (by omega), hnl]
        simp [hl.1, hl.2, -List.getD_eq_getElem?_getD]
      · simp [h2, -List.getD_eq_getElem?_getD]
theorem firstErr_zero (f : Nat → Int) : ∀ m k, firstErr f k m = 0 ↔ ∀ i, i < m → f (k + i) = 0
  | 0, k => by simp [firstErr]
  | m + 1, k => by
    show (if f k = 0 then firstErr f (k + 1) m else f k) = 0 ↔ _
    by_cases h : f k = 0
    · rw [if_pos h, firstErr_zero f m (k + 1)]
      constructor
      · intro hh i hi
        rcases i with _ | i
        · exact h
        · have := hh i (by omega); rwa [show k + 1 + i = k + (i + 1) by omega] at this
      · intro hh i hi
        have := hh (i + 1) (by omega); rwa [show k + (i + 1) = k + 1 + i by omega] at this
    · rw [if_neg h]
      exact ⟨fun e => absurd e h, fun hh => absurd (hh 0 (by omega)) h⟩
theorem cellErr_zero (row : List C) (x : Nat) : cellErr row x = 0 ↔ ((row.getD x z0).1 ≠ 0 → wd (row.getD x z0).1 ≠ 0) ∧ isSt (row.getD x z0).2 = true ∧ loose row x = false ∧ ((row.getD x z0).1 = 0 → (row.getD x z0).2 = (row.getD (x - 1) z0).2) := by
  unfold cellErr
  by_cases h1 : ((row.getD x z0).1 ≠ 0 ∧ wd (row.getD x z0).1 = 0) ∨ isSt (row.getD x z0).2 = false
  · rw [if_pos h1]
    constructor
    · intro h; exact absurd h (by decide)
    · intro h
      rcases h1 with h1 | h1
      · exact absurd h1.2 (h.1 h1.1)
      · rw [h.2.1] at h1; exact absurd h1 (by decide)
  · rw [if_neg h1]
    by_cases h2 : loose row x = true ∨ ((row.getD x z0).1 = 0 ∧ (row.getD x z0).2 ≠ (row.getD (x - 1) z0).2)
    · rw [if_pos h2]
      constructor
      · intro h; exact absurd h (by decide)
      · intro h
        rcases h2 with h2 | h2
        · rw [h.2.2.1] at h2; exact absurd h2 (by decide)
        · exact absurd (h.2.2.2 h2.1) h2.2
    · rw [if_neg h2]
      refine ⟨fun _ => ⟨fun h0 hw => h1 (.inl ⟨h0, hw⟩), ?_, ?_, fun h0 => ?_⟩, fun _ => rfl⟩
      · cases hs : isSt (row.getD x z0).2 with
        | true => rfl
        | false => exact absurd (.inr hs) h1
      · cases hs : loose row x with
        | false => rfl
        | true => exact absurd (.inl hs) h2
      · exact Decidable.byContradiction fun hne => h2 (.inr ⟨h0, hne⟩)
theorem rowErr_zero (row : List C) : rowErr row = 0 ↔ RightRow row := by
  unfold rowErr
  rw [firstErr_zero]
  constructor
  · intro h
    refine ⟨fun x hx => ?_, fun x hx => ?_⟩
    · have := h x hx
      rw [Nat.zero_add, cellErr_zero] at this
      exact ⟨this.1, this.2.1, fun h0 _ _ => this.2.2.2 h0⟩
    · have := h x hx
      rw [Nat.zero_add, cellErr_zero] at this
      exact this.2.2.1
  · rintro ⟨hm, hl⟩ x hx
    rw [Nat.zero_add, cellErr_zero]
    refine ⟨(hm x hx).1, (hm x hx).2.1, hl x hx, fun h0 => ?_⟩
    have := hl x hx
    unfold loose at this
    rw [if_pos h0] at this
    simp only [Bool.or_eq_false_iff, decide_eq_false_iff_not, Decidable.not_not] at this
    exact (hm x hx).2.2 h0 (by omega) this.2
theorem gridErr_zero (n hh : Nat) (cs : List C) : gridErr n hh cs = 0 ↔ isSize n hh = true ∧ cs.length = n * hh ∧ ∀ y, y < hh → RightRow (rowAt n cs y) := by
  unfold gridErr
  by_cases h : isSize (n : Int) hh = false ∨ (cs.length : Int) ≠ (n : Int) * hh
  · rw [if_pos h]
    constructor
    · intro e; exact absurd e (by decide)
    · rintro ⟨h1, h2, _⟩
      rcases h with h | h
      · rw [h1] at h; exact absurd h (by decide)
      · exact absurd (by exact_mod_cast h2) h
  · rw [if_neg h, firstErr_zero, Int.toNat_natCast, Int.toNat_natCast]
    have h' := not_or.1 h
    refine ⟨fun q => ⟨by simpa using h'.1, by exact_mod_cast Decidable.not_not.1 h'.2, fun y hy => ?_⟩, fun q y hy => ?_⟩
    · have := q y hy
      rw [Nat.zero_add] at this
      exact (rowErr_zero _).1 this
    · rw [Nat.zero_add]
      exact (rowErr_zero _).2 (q.2.2 y hy)
theorem meant_put (row : List C) (p : Nat → Bool) (f : Nat → C) (h : Meant row) (h1 : ∀ x, x < row.length → p x = true → ((f x).1 ≠ 0 → wd (f x).1 ≠ 0) ∧ isSt (f x).2 = true)
    (h2 : ∀ x, x + 1 < row.length → p x = true → p (x + 1) = true → (f (x + 1)).1 = 0 → wd (f x).1 = 2 → (f (x + 1)).2 = (f x).2)
    (h3 : ∀ x, x + 1 < row.length → p x = false → p (x + 1) = true → (f (x + 1)).1 ≠ 0) (h4 : ∀ x, x + 1 < row.length → p x = true → p (x + 1) = false → wd (f x).1 ≠ 2) : Meant (putRow row p f) := by
  intro x hx
  rw [putRow_len] at hx
  rw [putRow_at _ _ _ _ hx]
  refine ⟨?_, ?_, ?_⟩
  · cases hp : p x with
    | true => exact (h1 x hx hp).1
    | false => exact (h x hx).1
  · cases hp : p x with
    | true => exact (h1 x hx hp).2
    | false => exact (h x hx).2.1
  · intro h0 hpos hw
    obtain ⟨u, rfl⟩ : ∃ u, x = u + 1 := ⟨x - 1, by omega⟩
    rw [Nat.add_sub_cancel] at hw ⊢
    rw [putRow_at _ _ _ u (by omega)] at hw ⊢
    cases hp : p (u + 1) with
    | true =>
      rw [hp] at h0
      cases hq : p u with
      | true =>
        rw [hq] at hw
        exact h2 u hx hq hp h0 hw
      | false => exact absurd h0 (h3 u hx hq hp)
    | false =>
      rw [hp] at h0
      cases hq : p u with
      | true =>
        rw [hq] at hw
        exact absurd hw (h4 u hx hq hp)
      | false =>
        rw [hq] at hw
        exact (h (u + 1) hx).2.2 h0 hpos hw
theorem meant_fill (row : List C) (p : Nat → Bool) (c : C) (h : Meant row) (hc : wd c.1 = 1) (hs : isSt c.2 = true) : Meant (putRow row p fun _ => c) := by
  have hn : c.1 ≠ 0 := by intro h; rw [h, wd0] at hc; exact absurd hc (by decide)
  have hw : wd c.1 ≠ 2 := by rw [hc]; decide
  exact meant_put row p _ h (fun x _ _ => ⟨fun _ => by rw [hc]; decide, hs⟩) (fun x _ _ _ h0 _ => absurd h0 hn) (fun x _ _ _ => hn) (fun x _ _ _ => hw)
/-- The cells of 'fr' upon a row, from s on (s may be below 0). -/
def layP (m : Nat) (s : Int) (x : Nat) : Bool := decide (s ≤ x ∧ (x : Int) < s + m)
def layF (fr : List C) (s : Int) (x : Nat) : C := fr.getD ((x : Int) - s).toNat z0
theorem meant_lay (row fr : List C) (s : Int) (h : Meant row) (hf : RightRow fr) : Meant (putRow row (layP fr.length s) (layF fr s)) := by
  obtain ⟨hm, hl⟩ := hf
  refine meant_put row _ _ h (fun x hx hp => ?_) (fun x hx hp hq h0 hw => ?_) (fun x hx hp hq h0 => ?_) (fun x hx hp hq hw => ?_)
  · unfold layP at hp; unfold layF
    simp only [decide_eq_true_eq] at hp
    have := hm (((x : Int) - s).toNat) (by omega)
    exact ⟨this.1, this.2.1⟩
  · unfold layP at hp hq; unfold layF at h0 hw ⊢
    simp only [decide_eq_true_eq] at hp hq
    have e : (((x + 1 : Nat) : Int) - s).toNat - 1 = ((x : Int) - s).toNat := by omega
    have := (hm ((((x + 1 : Nat) : Int) - s).toNat) (by omega)).2.2 h0 (by omega)
    rw [e] at this
    exact this hw
  · unfold layP at hp hq; unfold layF at h0
    simp only [decide_eq_true_eq, decide_eq_false_iff_not] at hp hq
    have e : (((x + 1 : Nat) : Int) - s).toNat = 0 := by omega
    rw [e] at h0
    have := hl 0 (by omega)
    unfold loose at this
    rw [if_pos h0] at this
    simp at this
  · unfold layP at hp hq; unfold layF at hw
    simp only [decide_eq_true_eq, decide_eq_false_iff_not] at hp hq
    have e : ((x : Int) - s).toNat + 1 = fr.length := by omega
    have := hl (((x : Int) - s).toNat) (by omega)
    unfold loose at this
    have hn : ¬ (fr.getD ((x : Int) - s).toNat z0).1 = 0 := by intro h; rw [h, wd0] at hw; exact absurd hw (by decide)
    rw [if_neg hn, e] at this
    simp [hw, -List.getD_eq_getElem?_getD] at this
/-- One rune written at x, where it has room. -/
def writeOne (look : Int × Int × Int) (row : List C) (x : Nat) (r : Int) : List C :=
  if wd r = 0 then row else if wd r = 2 then (row.set x (r, look)).set (x + 1) (0, look) else row.set x (r, look)
def writeR (look : Int × Int × Int) : List (Int × Nat) → List C → Nat → List C
  | [], row, _ => row
  | r :: rs, row, x => if (row.length : Int) - x < wd r.1 then row else writeR look rs (writeOne look row x r.1) (x + (wd r.1).toNat)
theorem writeOne_len (look : Int × Int × Int) (row : List C) (x : Nat) (r : Int) : (writeOne look row x r).length = row.length := by
  unfold writeOne; repeat' split
  all_goals simp
theorem writeR_len (look : Int × Int × Int) : ∀ (rs : List (Int × Nat)) (row : List C) (x : Nat), (writeR look rs row x).length = row.length
  | [], _, _ => rfl
  | r :: rs, row, x => by
    unfold writeR
    split
    · rfl
    · rw [writeR_len, writeOne_len]
theorem meant_one (look : Int × Int × Int) (row : List C) (x : Nat) (r : Int) (h : Meant row) (hs : isSt look = true) (hr : wd r ≤ (row.length : Int) - x) : Meant (writeOne look row x r) := by
  unfold writeOne
  by_cases h0 : wd r = 0
  · rw [if_pos h0]; exact h
  · rw [if_neg h0]
    have hn : r ≠ 0 := by intro h; rw [h, wd0] at h0; exact h0 rfl
    have hpos := wd_nonneg r
    by_cases h2 : wd r = 2
    · rw [if_pos h2]
      have e : (row.set x (r, look)).set (x + 1) (0, look) = putRow row (fun j => decide (j = x ∨ j = x + 1)) (fun j => if j = x then (r, look) else (0, look)) := by
        refine ext_getD _ _ (by simp [putRow_len]) fun j hj => ?_
        rw [List.length_set, List.length_set] at hj
        rw [getD_set _ _ _ _ (by rw [List.length_set]; omega), getD_set _ _ _ _ (by omega), putRow_at _ _ _ _ hj]
        by_cases h1 : j = x + 1
        · subst h1; simp
        · by_cases h3 : j = x
          · subst h3; simp
          · simp [h1, h3]
      rw [e]
      refine meant_put row _ _ h (fun j hj hp => ?_) (fun j hj hp hq hz hw => ?_) (fun j hj hp hq => ?_) (fun j hj hp hq => ?_)
      · by_cases h3 : j = x
        · rw [if_pos h3]; exact ⟨fun _ => h0, hs⟩
        · rw [if_neg h3]; exact ⟨fun h => absurd rfl h, hs⟩
      · simp only [decide_eq_true_eq] at hp hq
        by_cases h3 : j = x
        · rw [if_pos h3, if_neg (by omega)]
        · rw [if_neg h3] at hw; dsimp only at hw; rw [wd0] at hw; exact absurd hw (by decide)
      · simp only [decide_eq_true_eq, decide_eq_false_iff_not] at hp hq
        rw [if_pos (by omega)]; exact hn
      · simp only [decide_eq_true_eq, decide_eq_false_iff_not] at hp hq
        rw [if_neg (by omega), wd0]; decide
    · rw [if_neg h2]
      have e : row.set x (r, look) = putRow row (fun j => decide (j = x)) (fun _ => (r, look)) := by
        refine ext_getD _ _ (by simp [putRow_len]) fun j hj => ?_
        rw [List.length_set] at hj
        rw [getD_set _ _ _ _ (by omega), putRow_at _ _ _ _ hj]
        by_cases h3 : j = x
        · subst h3; simp
        · simp [h3]
      rw [e]
      have h1 : wd r ≠ 2 := h2
      exact meant_put row _ _ h (fun j hj hp => ⟨fun _ => h0, hs⟩) (fun j hj hp hq hz hw => absurd hz hn) (fun j hj hp hq => hn) (fun j hj hp hq => h1)
theorem meant_write (look : Int × Int × Int) (hs : isSt look = true) : ∀ (rs : List (Int × Nat)) (row : List C) (x : Nat), Meant row → Meant (writeR look rs row x)
  | [], _, _, h => h
  | r :: rs, row, x, h => by
    unfold writeR
    split
    · exact h
    · exact meant_write look hs rs _ _ (meant_one look row x r.1 h hs (by omega))
theorem replicate_right (n : Nat) : RightRow (List.replicate n (32, 0, 0, 0)) := by
  have hg : ∀ x, x < n → (List.replicate n ((32, 0, 0, 0) : C)).getD x z0 = (32, 0, 0, 0) := fun x hx => by simp [List.getD, hx]
  refine ⟨fun x hx => ?_, fun x hx => ?_⟩
  · rw [List.length_replicate] at hx
    rw [hg x hx]
    exact ⟨fun _ => by dsimp only; rw [wd32]; decide, by decide, fun h => absurd h (by decide)⟩
  · rw [List.length_replicate] at hx
    unfold loose
    rw [hg x hx, if_neg (by decide)]
    dsimp only
    rw [wd32]
    rfl
theorem rowAt_replicate (n hh y : Nat) (c : C) (hy : y < hh) : rowAt n (List.replicate (n * hh) c) y = List.replicate n c := by
  have h : (y + 1) * n ≤ hh * n := Nat.mul_le_mul_right _ hy
  rw [Nat.add_mul, Nat.one_mul, Nat.mul_comm hh n] at h
  unfold rowAt
  rw [List.drop_replicate, List.take_replicate]
  congr 1
  omega
end Grd
end Go.Proofs.YtinhmklpnkikgaaDoor

/- One cell stored into a row in the middle of a block. -/
namespace Go.Proofs.YtinhmklpnkikgaaDoor
open Go.ChangeShapes Go.WideShapes Go.ChangeAt Go.RowKit
namespace Grd
theorem set_take (L : List Value) (o : Nat) (v : Value) (h : o < L.length) : (L.set o v).take (o + 1) = L.take o ++ [v] := by
  rw [List.set_eq_take_append_cons_drop, if_pos h, List.take_append, List.length_take, Nat.min_eq_left (by omega), Nat.add_sub_cancel_left, List.take_of_length_le (by rw [List.length_take]; omega)]
  rfl
theorem set_drop (L : List Value) (o k : Nat) (v : Value) (h : o < k) : (L.set o v).drop k = L.drop k := by
  rw [List.drop_set, if_pos h]
theorem heap_setCells (g : Nat) (t : TypeId) : ∀ (vs : List Value) (o : Nat) (w : World) (L : List Value), w.heap[g]? = some (.cells L.toArray t (0, 0)) → o + vs.length ≤ L.length → (w.setCells g o vs).heap[g]? = some (.cells (L.take o ++ (vs ++ L.drop (o + vs.length))).toArray t (0, 0))
  | [], o, w, L, h, _ => by
    show w.heap[g]? = _
    rw [h]; simp
  | v :: r, o, w, L, h, hl => by
    rw [List.length_cons] at hl
    have h1 := heap_setCell_same w g o _ t v h
    have h2 := heap_setCells g t r (o + 1) (w.setCell ⟨g, o, none⟩ v) (L.set o v) (by rw [h1]; simp) (by rw [List.length_set]; omega)
    show ((w.setCell ⟨g, o, none⟩ v).setCells g (o + 1) r).heap[g]? = _
    rw [h2, set_take L o v (by omega), set_drop L o _ v (by omega), List.append_assoc, List.length_cons, show o + 1 + r.length = o + (r.length + 1) by omega]
    rfl
theorem words_len (c : C) : (words c).length = 4 := rfl
theorem flat_cut (cs : List C) (x : Nat) (h : x < cs.length) : flat cs = flat (cs.take x) ++ (words (cs.getD x z0) ++ flat (cs.drop (x + 1))) := by
  have e : cs = cs.take x ++ (cs.getD x z0 :: cs.drop (x + 1)) := by
    have : cs.getD x z0 = cs[x] := by simp [List.getD, h]
    rw [this, List.getElem_cons_drop, List.take_append_drop]
  conv => lhs; rw [e]
  rw [flat_append]; rfl
theorem flat_put (cs : List C) (x : Nat) (c : C) (h : x < cs.length) : flat (cs.set x c) = flat (cs.take x) ++ (words c ++ flat (cs.drop (x + 1))) := by
  rw [List.set_eq_take_append_cons_drop, if_pos h, flat_append]; rfl
/-- A cell stored at x of the row that lies behind 'pre'. -/
theorem store_cell {w : World} {g : Nat} {t : TypeId} {pre post : List Value} {cs : List C} (h : w.heap[g]? = some (.cells (pre ++ (flat cs ++ post)).toArray t (0, 0))) (x : Nat) (hx : x < cs.length) (c : C) :
    (w.setCells g (pre.length + x * 4) (words c)).heap[g]? = some (.cells (pre ++ (flat (cs.set x c) ++ post)).toArray t (0, 0)) := by
  have hl : (flat (cs.take x)).length = x * 4 := by rw [flat_len, List.length_take, Nat.min_eq_left (by omega)]
  have h1 := heap_setCells g t (words c) (pre.length + x * 4) w _ h (by
    rw [List.length_append, List.length_append, flat_len, words_len]; omega)
  rw [h1, flat_put cs x c hx, flat_cut cs x hx]
  have e1 : (pre ++ ((flat (cs.take x) ++ (words (cs.getD x z0) ++ flat (cs.drop (x + 1)))) ++ post)).take (pre.length + x * 4) = pre ++ flat (cs.take x) := by
    rw [List.take_append, List.take_of_length_le (by omega), Nat.add_sub_cancel_left, List.append_assoc, List.take_left' hl]
  have e2 : (pre ++ ((flat (cs.take x) ++ (words (cs.getD x z0) ++ flat (cs.drop (x + 1)))) ++ post)).drop (pre.length + x * 4 + (words c).length) = flat (cs.drop (x + 1)) ++ post := by
    rw [words_len, Nat.add_assoc, List.drop_append, List.drop_of_length_le (by omega), Nat.add_sub_cancel_left, List.append_assoc, ← hl, List.drop_append, List.drop_of_length_le (by omega), Nat.add_sub_cancel_left, List.append_assoc]
    rfl
  rw [e1, e2]
  simp only [List.append_assoc]
theorem there_cell {w : World} {g : Nat} {t : TypeId} {pre post : List Value} {cs : List C} (h : w.heap[g]? = some (.cells (pre ++ (flat cs ++ post)).toArray t (0, 0))) (x : Nat) (hx : x < cs.length) : w.there g (pre.length + x * 4) 4 := fun j hj => by
  refine ⟨?_, frozen_of h _⟩
  unfold World.cell?
  rw [h]
  have : pre.length + x * 4 + j < (pre ++ (flat cs ++ post)).length := by rw [List.length_append, List.length_append, flat_len]; omega
  simp [List.getElem?_eq_getElem this]
theorem range_cell {w : World} {b o : Nat} {cs : List C} (h : CellsAt w b o cs) (x : Nat) (hx : x < cs.length) : w.rangeAt b (o + x * 4) (words (cs.getD x z0)) := fun j v hv => by
  obtain ⟨h0, h1, h2, h3⟩ := h x hx
  have hj : j < 4 := by have := (List.getElem?_eq_some_iff.1 hv).1; rwa [words_len] at this
  match j, hj with
  | 0, _ => rw [← hv]; exact h0
  | 1, _ => rw [← hv]; exact h1
  | 2, _ => rw [← hv]; exact h2
  | 3, _ => rw [← hv]; exact h3
theorem words_agg (c : C) : (.agg (words c).toArray : Value) = .agg #[.int .i32 c.1, .int .i64 c.2.1, .int .i64 c.2.2.1, .int .i64 c.2.2.2] := rfl
theorem words_one (c : C) : (#[.int .i32 c.1, .int .i64 c.2.1, .int .i64 c.2.2.1, .int .i64 c.2.2.2] : Array Value).all (·.oneCell') = true := by simp [Value.oneCell']
end Grd
end Go.Proofs.YtinhmklpnkikgaaDoor

/- The walk of grid.Fill. -/
namespace Go.Proofs.YtinhmklpnkikgaaDoor
open Go.ChangeShapes Go.WideShapes Go.ChangeAt Go.RowKit
namespace Grd
open Txt (wd)
open Sty (isSt)
def inside (at' long : Int) (size : Nat) (x : Nat) : Bool := decide (max (nearI at') 0 ≤ (x : Int) ∧ (x : Int) < min (nearI at' + nearI long) size)
def fillF (n hh : Nat) (rx ry rw rh : Int) (c : C) (y : Nat) (row : List C) : List C := if inside ry rh hh y then mendL (putRow row (inside rx rw n) fun _ => c) else row
def fillG (n hh : Nat) (cs : List C) (rx ry rw rh : Int) (c : C) : List C := preF n cs (fillF n hh rx ry rw rh c) hh
theorem fillF_len (n hh : Nat) (rx ry rw rh : Int) (c : C) : KeepLen n (fillF n hh rx ry rw rh c) := fun y row h => by
  unfold fillF
  split
  · rw [mendL_len, putRow_len, h]
  · exact h
theorem near_in (a : Int) : -1000 ≤ nearI a ∧ nearI a ≤ 1000 := by unfold nearI; omega
/-- The cells when the rows below k are done. -/
def upto (n hh : Nat) (cs : List C) (f : Nat → List C → List C) (k : Nat) : List C := preF n cs f (min k hh) ++ cs.drop (min k hh * n)
theorem upto_start (n hh : Nat) (cs : List C) (f : Nat → List C → List C) (k : Nat) (h : ∀ y, y < k → f y (rowAt n cs y) = rowAt n cs y) : upto n hh cs f k = cs := by
  unfold upto
  rw [preF_id n cs f _ (fun y hy => h y (by omega)), List.take_append_drop]
theorem upto_end (n hh : Nat) (cs : List C) (f : Nat → List C → List C) (hL : cs.length = n * hh) (k : Nat) (h : ∀ y, k ≤ y → f y (rowAt n cs y) = rowAt n cs y) : upto n hh cs f k = preF n cs f hh := by
  unfold upto
  by_cases hk : k ≤ hh
  · rw [Nat.min_eq_left hk]
    exact (preF_rest n hh cs f hL k (hh - k) (by omega) (fun y h1 _ => h y h1)).symm
  · rw [Nat.min_eq_right (by omega), List.drop_of_length_le (by rw [hL, Nat.mul_comm]; exact Nat.le_refl _), List.append_nil]
theorem upto_at (n hh : Nat) (cs : List C) (f : Nat → List C → List C) (k : Nat) (hk : k < hh) : upto n hh cs f k = preF n cs f k ++ (rowAt n cs k ++ cs.drop ((k + 1) * n)) := by
  unfold upto
  rw [Nat.min_eq_left (by omega), drop_row]
theorem upto_next (n hh : Nat) (cs : List C) (f : Nat → List C → List C) (k : Nat) (hk : k < hh) : upto n hh cs f (k + 1) = preF n cs f k ++ (f k (rowAt n cs k) ++ cs.drop ((k + 1) * n)) := by
  unfold upto
  rw [Nat.min_eq_left (by omega)]
  show (preF n cs f k ++ f k (rowAt n cs k)) ++ _ = _
  rw [List.append_assoc]
theorem upto_len (n hh : Nat) (cs : List C) (f : Nat → List C → List C) (hL : cs.length = n * hh) (hf : KeepLen n f) (k : Nat) : (upto n hh cs f k).length = cs.length := by
  unfold upto
  rw [List.length_append, preF_len n hh cs f hL hf _ (by omega), List.length_drop]
  have : min k hh * n ≤ cs.length := by rw [hL, Nat.mul_comm n hh]; exact Nat.mul_le_mul_right _ (by omega)
  omega
theorem flat_three (a b c : List C) (rest : List Value) : flat (a ++ (b ++ c)) ++ rest = flat a ++ (flat b ++ (flat c ++ rest)) := by
  rw [flat_append, flat_append]; simp only [List.append_assoc]
theorem alloc4 (w : World) (o0 o1 o2 o3 : Obj) : ((((w.alloc o0).alloc o1).alloc o2).alloc o3).heap[w.heap.size]? = some o0 ∧ ((((w.alloc o0).alloc o1).alloc o2).alloc o3).heap[w.heap.size + 1]? = some o1 ∧
    ((((w.alloc o0).alloc o1).alloc o2).alloc o3).heap[w.heap.size + 2]? = some o2 ∧ ((((w.alloc o0).alloc o1).alloc o2).alloc o3).heap[w.heap.size + 3]? = some o3 ∧
    Below w.heap.size w ((((w.alloc o0).alloc o1).alloc o2).alloc o3) ∧ ((((w.alloc o0).alloc o1).alloc o2).alloc o3).heap.size = w.heap.size + 4 := by
  have s1 : (w.alloc o0).heap.size = w.heap.size + 1 := by simp
  have s2 : ((w.alloc o0).alloc o1).heap.size = w.heap.size + 2 := by simp
  have s3 : (((w.alloc o0).alloc o1).alloc o2).heap.size = w.heap.size + 3 := by simp
  refine ⟨?_, ?_, ?_, ?_, (((Below.refl _ _).alloc (Nat.le_refl _) _).alloc (by omega) _ |>.alloc (by omega) _).alloc (by omega) _, by simp⟩
  · rw [Below.heap_alloc _ _ _ (by omega), Below.heap_alloc _ _ _ (by omega), Below.heap_alloc _ _ _ (by omega), heap_alloc_new]
  · rw [Below.heap_alloc _ _ _ (by omega), Below.heap_alloc _ _ _ (by omega), ← s1, heap_alloc_new]
  · rw [Below.heap_alloc _ _ _ (by omega), ← s2, heap_alloc_new]
  · rw [← s3, heap_alloc_new]
theorem alloc3 (w : World) (o0 o1 o2 : Obj) : (((w.alloc o0).alloc o1).alloc o2).heap[w.heap.size]? = some o0 ∧ (((w.alloc o0).alloc o1).alloc o2).heap[w.heap.size + 1]? = some o1 ∧
    (((w.alloc o0).alloc o1).alloc o2).heap[w.heap.size + 2]? = some o2 ∧
    Below w.heap.size w (((w.alloc o0).alloc o1).alloc o2) ∧ (((w.alloc o0).alloc o1).alloc o2).heap.size = w.heap.size + 3 := by
  have s1 : (w.alloc o0).heap.size = w.heap.size + 1 := by simp
  have s2 : ((w.alloc o0).alloc o1).heap.size = w.heap.size + 2 := by simp
  refine ⟨?_, ?_, ?_, (((Below.refl _ _).alloc (Nat.le_refl _) _).alloc (by omega) _).alloc (by omega) _, by simp⟩
  · rw [Below.heap_alloc _ _ _ (by omega), Below.heap_alloc _ _ _ (by omega), heap_alloc_new]
  · rw [Below.heap_alloc _ _ _ (by omega), ← s1, heap_alloc_new]
  · rw [← s2, heap_alloc_new]
theorem near_same (n : Int) (w : World) : Calls Tryd.prog 44 #[.int .i64 n] w fun e w' => e = .returned (.int .i64 (nearI n)) ∧ w' = w := (near_any n w).mono fun _ _ h => ⟨h.1, h.2.symm⟩
theorem reach_same (p l : Int) (s : Int) (w : World) : Calls Tryd.prog 43 #[.int .i64 (nearI p), .int .i64 (nearI l), .int .i64 s] w fun e w' => e = .returned (.tuple #[.int .i64 (max (nearI p) 0), .int .i64 (min (nearI p + nearI l) s)]) ∧ w' = w :=
  (reach_any _ _ s w (by have := near_in p; omega) (by have := near_in p; omega) (by have := near_in l; omega) (by have := near_in l; omega)).mono fun _ _ h => ⟨h.1, h.2.symm⟩
set_option maxHeartbeats 1000000 in
theorem fill_bad1 (a h : Int) (v : Value) (cs : List C) (rx ry rw rh r f bk x : Int) (w : World) (hT : Txt.Tab w) (hS : SliceAt w v cs) (hok : gridErr a h cs ≠ 0) :
    Calls Tryd.prog 18 #[.agg #[.int .i64 a, .int .i64 h, v], .agg #[.int .i64 rx, .int .i64 ry, .int .i64 rw, .int .i64 rh], .agg #[.int .i32 r, .int .i64 f, .int .i64 bk, .int .i64 x]] w fun e w' => e = .returned (.tuple #[.agg #[.int .i64 0, .int .i64 0, .slice none 0 0], .int .i64 (gridErr a h cs)]) ∧ Below w.heap.size w w' := by
  obtain ⟨_, _, _, x3, kk, hsz⟩ := alloc4 w (.cells #[.int .i64 a, .int .i64 h, v] 24) (.cells #[.int .i64 rx, .int .i64 ry, .int .i64 rw, .int .i64 rh] 36) (.cells #[.int .i32 r, .int .i64 f, .int .i64 bk, .int .i64 x] 40) (.cells #[.int .i64 0, .int .i64 0, .slice none 0 0] 24)
  have HK := check_any a h v cs _ (Tab.next hT kk) (hS.below kk)
  generalize hW0 : ((((w.alloc (.cells #[.int .i64 a, .int .i64 h, v] 24)).alloc (.cells #[.int .i64 rx, .int .i64 ry, .int .i64 rw, .int .i64 rh] 36)).alloc (.cells #[.int .i32 r, .int .i64 f, .int .i64 bk, .int .i64 x] 40)).alloc (.cells #[.int .i64 0, .int .i64 0, .slice none 0 0] 24)) = W0 at x3 kk hsz HK
  have HW0 : Hid (_ = W0) := hW0
  generalize gridErr a h cs = er at *
  have HK' : Hid (Calls Tryd.prog 11 #[.agg #[.int .i64 a, .int .i64 h, v]] W0 fun e w' => e = .returned (.int .i64 er) ∧ Below W0.heap.size W0 w') := HK
  have ne : (er != 0) = true := by simpa using hok
  clear HK hW0 hok
  go_enter Tryd.func18, Tryd.ntmps18
  go_wp2_with (first
    | (go_at_call 11; rw [HW0.out]; refine HK'.out.mono ?_; rintro e W1 ⟨rfl, b1⟩; have y3 := carry x3 b1)
    | (refine wpList_store_row rfl 24 (.tmp 6) _ rfl (w.heap.size + 3) #[.int .i64 0, .int .i64 0, .slice none 0 0] rfl rfl _ _ y3 (by kernel_rfl) rfl (one3v _ _ _ _ _) ?_))
  (try simp only [Exit.inBlock, Exit.then])
  refine bodyPost_ret (v := .tuple #[.agg #[.int .i64 0, .int .i64 0, .slice none 0 0], .int .i64 er]) ?_ rfl ⟨rfl, below_setRow (kk.trans (b1.mono kk.size)) (by omega) _⟩
  exact results_row_tmp rfl _ _ (w.heap.size + 3) _ _ _ _ rfl (setRow_heap _ _ _ _ _ _ y3) Tryd.underlying24 rfl (by kernel_rfl) _ rfl
end Grd
end Go.Proofs.YtinhmklpnkikgaaDoor

/- The walk of grid.Fill: the wrong cell, and the right one. -/
namespace Go.Proofs.YtinhmklpnkikgaaDoor
open Go.ChangeShapes Go.WideShapes Go.ChangeAt Go.RowKit
namespace Grd
open Txt (wd)
open Sty (isSt)
theorem check_ok (a h : Int) (v : Value) (cs : List C) (w : World) (hT : Txt.Tab w) (hS : SliceAt w v cs) (hok : gridErr a h cs = 0) :
    Calls Tryd.prog 11 #[.agg #[.int .i64 a, .int .i64 h, v]] w fun e w' => e = .returned (.int .i64 0) ∧ Below w.heap.size w w' := by
  have := check_any a h v cs w hT hS
  rwa [hok] at this
set_option maxHeartbeats 1000000 in
theorem fill_bad2 (a h : Int) (v : Value) (cs : List C) (rx ry rw rh r f bk x : Int) (w : World) (hT : Txt.Tab w) (hS : SliceAt w v cs) (hok : gridErr a h cs = 0) (hr : wd r ≠ 1) :
    Calls Tryd.prog 18 #[.agg #[.int .i64 a, .int .i64 h, v], .agg #[.int .i64 rx, .int .i64 ry, .int .i64 rw, .int .i64 rh], .agg #[.int .i32 r, .int .i64 f, .int .i64 bk, .int .i64 x]] w fun e w' => e = .returned (.tuple #[.agg #[.int .i64 0, .int .i64 0, .slice none 0 0], .int .i64 4]) ∧ Below w.heap.size w w' := by
  obtain ⟨_, _, x2, x3, kk, hsz⟩ := alloc4 w (.cells #[.int .i64 a, .int .i64 h, v] 24) (.cells #[.int .i64 rx, .int .i64 ry, .int .i64 rw, .int .i64 rh] 36) (.cells #[.int .i32 r, .int .i64 f, .int .i64 bk, .int .i64 x] 40) (.cells #[.int .i64 0, .int .i64 0, .slice none 0 0] 24)
  have HK := check_ok a h v cs _ (Tab.next hT kk) (hS.below kk) hok
  have HT : Hid (∀ W, Below w.heap.size w W → Txt.Tab W) := fun W k => Tab.next hT k
  clear hT hS hok
  generalize hW0 : ((((w.alloc (.cells #[.int .i64 a, .int .i64 h, v] 24)).alloc (.cells #[.int .i64 rx, .int .i64 ry, .int .i64 rw, .int .i64 rh] 36)).alloc (.cells #[.int .i32 r, .int .i64 f, .int .i64 bk, .int .i64 x] 40)).alloc (.cells #[.int .i64 0, .int .i64 0, .slice none 0 0] 24)) = W0 at x2 x3 kk hsz HK
  have HW0 : Hid (_ = W0) := hW0
  have HK' : Hid (Calls Tryd.prog 11 #[.agg #[.int .i64 a, .int .i64 h, v]] W0 fun e w' => e = .returned (.int .i64 0) ∧ Below W0.heap.size W0 w') := HK
  obtain ⟨wr, hwr⟩ : ∃ q, wd r = q := ⟨_, rfl⟩
  have HR : Hid (wd r = wr) := hwr
  rw [hwr] at hr
  have ne : (wr != 1) = true := by simpa using hr
  clear HK hW0 hwr hr
  go_enter Tryd.func18, Tryd.ntmps18
  go_wp2_with (first
    | (go_at_call 11; rw [HW0.out]; refine HK'.out.mono ?_; rintro e W1 ⟨rfl, b1⟩; have k1 := kk.trans (b1.mono kk.size); have y3 := carry x3 b1; have ⟨c0, c1, c2, c3⟩ := cells4 (carry x2 b1))
    | (go_at_call 40; refine (width_to r _ (HT.out _ k1) _ HR.out).mono ?_; rintro e W2 ⟨rfl, b2⟩; have k2 := k1.trans (b2.mono k1.size); have z3 := carry y3 b2)
    | (refine wpList_store_row rfl 24 (.tmp 6) _ rfl (w.heap.size + 3) #[.int .i64 0, .int .i64 0, .slice none 0 0] rfl rfl _ _ z3 (by kernel_rfl) rfl (one3v _ _ _ _ _) ?_))
  (try simp only [Exit.inBlock, Exit.then])
  refine bodyPost_ret (v := .tuple #[.agg #[.int .i64 0, .int .i64 0, .slice none 0 0], .int .i64 4]) ?_ rfl ⟨rfl, below_setRow k2 (by omega) _⟩
  exact results_row_tmp rfl _ _ (w.heap.size + 3) _ _ _ _ rfl (setRow_heap _ _ _ _ _ _ z3) Tryd.underlying24 rfl (by kernel_rfl) _ rfl
set_option maxHeartbeats 1000000 in
theorem fill_bad3 (a h : Int) (v : Value) (cs : List C) (rx ry rw rh r f bk x : Int) (w : World) (hT : Txt.Tab w) (hS : SliceAt w v cs) (hok : gridErr a h cs = 0) (hr : wd r = 1) (hs : isSt (f, bk, x) = false) :
    Calls Tryd.prog 18 #[.agg #[.int .i64 a, .int .i64 h, v], .agg #[.int .i64 rx, .int .i64 ry, .int .i64 rw, .int .i64 rh], .agg #[.int .i32 r, .int .i64 f, .int .i64 bk, .int .i64 x]] w fun e w' => e = .returned (.tuple #[.agg #[.int .i64 0, .int .i64 0, .slice none 0 0], .int .i64 4]) ∧ Below w.heap.size w w' := by
  obtain ⟨_, _, x2, x3, kk, hsz⟩ := alloc4 w (.cells #[.int .i64 a, .int .i64 h, v] 24) (.cells #[.int .i64 rx, .int .i64 ry, .int .i64 rw, .int .i64 rh] 36) (.cells #[.int .i32 r, .int .i64 f, .int .i64 bk, .int .i64 x] 40) (.cells #[.int .i64 0, .int .i64 0, .slice none 0 0] 24)
  have HK := check_ok a h v cs _ (Tab.next hT kk) (hS.below kk) hok
  have HT : Hid (∀ W, Below w.heap.size w W → Txt.Tab W) := fun W k => Tab.next hT k
  clear hT hS hok
  generalize hW0 : ((((w.alloc (.cells #[.int .i64 a, .int .i64 h, v] 24)).alloc (.cells #[.int .i64 rx, .int .i64 ry, .int .i64 rw, .int .i64 rh] 36)).alloc (.cells #[.int .i32 r, .int .i64 f, .int .i64 bk, .int .i64 x] 40)).alloc (.cells #[.int .i64 0, .int .i64 0, .slice none 0 0] 24)) = W0 at x2 x3 kk hsz HK
  have HW0 : Hid (_ = W0) := hW0
  have HK' : Hid (Calls Tryd.prog 11 #[.agg #[.int .i64 a, .int .i64 h, v]] W0 fun e w' => e = .returned (.int .i64 0) ∧ Below W0.heap.size W0 w') := HK
  have HR : Hid (wd r = 1) := hr
  have HS : Hid (isSt (f, bk, x) = false) := hs
  clear HK hW0 hr hs
  go_enter Tryd.func18, Tryd.ntmps18
  go_wp2_with (first
    | (go_at_call 11; rw [HW0.out]; refine HK'.out.mono ?_; rintro e W1 ⟨rfl, b1⟩; have k1 := kk.trans (b1.mono kk.size); have y3 := carry x3 b1; have y2 := carry x2 b1; have ⟨c0, c1, c2, c3⟩ := cells4 y2)
    | (go_at_call 40; refine (width_to r _ (HT.out _ k1) _ HR.out).mono ?_; rintro e W2 ⟨rfl, b2⟩; have k2 := k1.trans (b2.mono k1.size); have z3 := carry y3 b2; have ⟨d0, d1, d2, d3⟩ := cells4 (carry y2 b2))
    | (go_at_call 41; refine (check_to f bk x _ HS.out _).mono ?_; rintro e W3 ⟨rfl, b3⟩; have k3 := k2.trans (b3.mono k2.size); have u3 := carry z3 b3)
    | (refine wpList_store_row rfl 24 (.tmp 6) _ rfl (w.heap.size + 3) #[.int .i64 0, .int .i64 0, .slice none 0 0] rfl rfl _ _ u3 (by kernel_rfl) rfl (one3v _ _ _ _ _) ?_))
  (try simp only [Exit.inBlock, Exit.then])
  refine bodyPost_ret (v := .tuple #[.agg #[.int .i64 0, .int .i64 0, .slice none 0 0], .int .i64 4]) ?_ rfl ⟨rfl, below_setRow k3 (by omega) _⟩
  exact results_row_tmp rfl _ _ (w.heap.size + 3) _ _ _ _ rfl (setRow_heap _ _ _ _ _ _ u3) Tryd.underlying24 rfl (by kernel_rfl) _ rfl
end Grd
end Go.Proofs.YtinhmklpnkikgaaDoor

/- The walk of overwrite. -/
namespace Go.Proofs.YtinhmklpnkikgaaDoor
open Go.ChangeShapes Go.WideShapes Go.ChangeAt Go.RowKit
namespace Grd
open Txt (wd)
theorem CellsAt.apart {w w' : World} {N : Nat} {S : List Nat} {b o : Nat} {cs : List C} (h : CellsAt w b o cs) (ha : Apart N S w w') (hb : b ∉ S) : CellsAt w' b o cs := fun j hj => by
  obtain ⟨h0, h1, h2, h3⟩ := h j hj
  have hlt := World.block_lt_of_cell? w _ h0
  have e : ∀ i, w'.cell? ⟨b, i, none⟩ = w.cell? ⟨b, i, none⟩ := fun i => by
    unfold World.cell?
    rw [ha.2 b hb hlt]
  exact ⟨(e _).trans h0, (e _).trans h1, (e _).trans h2, (e _).trans h3⟩
/-- The cells of a grid of width m and height p upon another's rows, from X, Y on. -/
def layFn (m p : Nat) (fs : List C) (X Y : Int) (y : Nat) (row : List C) : List C :=
  if Y ≤ (y : Int) ∧ (y : Int) < Y + p then mendL (putRow row (layP m X) (layF (rowAt m fs ((y : Int) - Y).toNat) X)) else row
def layG (n hh : Nat) (cs : List C) (m p : Nat) (fs : List C) (X Y : Int) : List C := preF n cs (layFn m p fs X Y) hh
theorem layFn_len (n m p : Nat) (fs : List C) (X Y : Int) : KeepLen n (layFn m p fs X Y) := fun y row h => by
  unfold layFn
  split
  · rw [mendL_len, putRow_len, h]
  · exact h
theorem size_cellO : (Tryd.prog.info? 40).map (·.size) = some 4 := by kernel_rfl
theorem wpList_store_cellO {ops : Array Oper} {rest : List Oper} {op : Oper} {a : Act} {w : World} {Q : Exit → Act → World → Prop} (hgd : op.guard = none) (x y : Operand) (ho : op.op = .store 40 x y)
    (g o : Nat) (c : C) (hx : a.eval x = .pointer (some ⟨g, o, none⟩)) (hy : a.eval y = .agg #[.int .i32 c.1, .int .i64 c.2.1, .int .i64 c.2.2.1, .int .i64 c.2.2.2]) (ht : w.there g o 4)
    (h : ∀ Z, Z = w.setCells g o (words c) → wpList Tryd.prog ops Q rest (a.put op.dst undef) Z) : wpList Tryd.prog ops Q (op :: rest) a w :=
  wpList_store_mid hgd 40 x y ho g o _ hx hy ht size_cellO (words_one c) (h _ rfl)
theorem alloc2' (w : World) (o0 o1 : Obj) : ((w.alloc o0).alloc o1).heap[w.heap.size]? = some o0 ∧ ((w.alloc o0).alloc o1).heap[w.heap.size + 1]? = some o1 ∧ Below w.heap.size w ((w.alloc o0).alloc o1) ∧ ((w.alloc o0).alloc o1).heap.size = w.heap.size + 2 := by
  have s1 : (w.alloc o0).heap.size = w.heap.size + 1 := by simp
  refine ⟨?_, ?_, ((Below.refl _ _).alloc (Nat.le_refl _) _).alloc (by omega) _, by simp⟩
  · rw [Below.heap_alloc _ _ _ (by omega), heap_alloc_new]
  · rw [← s1, heap_alloc_new]
set_option maxHeartbeats 8000000 in
set_option maxRecDepth 100000 in
theorem overwrite_any (n hh g cap : Nat) (cs : List C) (rest : List Value) (t : TypeId) (m p b o cx : Nat) (fs : List C) (X Y : Int) (w : World) (hT : Txt.Tab w) (hg : 0 < g)
    (hh1 : w.heap[g]? = some (.cells (flat cs ++ rest).toArray t (0, 0))) (hL : cs.length = n * hh) (hn1 : 1 ≤ n) (hn2 : n ≤ 120) (hh2 : hh ≤ 60) (hlc : cs.length ≤ cap) (hcm : cap ≤ 9223372036854775807)
    (hF : CellsAt w b o fs) (hbg : b ≠ g) (hLf : fs.length = m * p) (hm1 : 1 ≤ m) (hm2 : m ≤ 120) (hp2 : p ≤ 60) (hlf : fs.length ≤ cx) (hcx : cx ≤ 9223372036854775807) (hX : -1000 ≤ X) (hX' : X ≤ 1000) (hY : -1000 ≤ Y) (hY' : Y ≤ 1000) (hMc : ∀ y, y < hh → Meant (rowAt n cs y)) (hRf : ∀ y, y < p → RightRow (rowAt m fs y)) :
    Calls Tryd.prog 48 #[.agg #[.int .i64 (n : Int), .int .i64 (hh : Int), .slice (some ⟨g, 0, none⟩) cs.length cap], .agg #[.int .i64 (m : Int), .int .i64 (p : Int), .slice (some ⟨b, o, none⟩) fs.length cx], .int .i64 X, .int .i64 Y] w fun e w' => e = .returned (.tuple #[]) ∧ w'.heap[g]? = some (.cells (flat (layG n hh cs m p fs X Y) ++ rest).toArray t (0, 0)) ∧ Apart g [g] w w' := by
  have HTP : Hid (0 < g) := hg
  have HT : Hid (Txt.Tab w) := hT
  have HF : Hid (CellsAt w b o fs) := hF
  have HL : Hid (cs.length = n * hh) := hL
  have HLf : Hid (fs.length = m * p) := hLf
  have hgw := blk_lt hh1
  have HMC : Hid (∀ y, y < hh → Meant (rowAt n cs y)) := hMc
  have HRF : Hid (∀ y, y < p → RightRow (rowAt m fs y)) := hRf
  clear hMc hRf
  obtain ⟨x0, x1, kk, hsz⟩ := alloc2' w (.cells #[.int .i64 (n : Int), .int .i64 (hh : Int), .slice (some ⟨g, 0, none⟩) cs.length cap] 24) (.cells #[.int .i64 (m : Int), .int .i64 (p : Int), .slice (some ⟨b, o, none⟩) fs.length cx] 24)
  generalize hW0 : ((w.alloc (.cells #[.int .i64 (n : Int), .int .i64 (hh : Int), .slice (some ⟨g, 0, none⟩) cs.length cap] 24)).alloc (.cells #[.int .i64 (m : Int), .int .i64 (p : Int), .slice (some ⟨b, o, none⟩) fs.length cx] 24)) = W0 at x0 x1 kk hsz
  have HW0 : Hid (_ = W0) := hW0
  clear hT hF hL hLf hg hW0
  go_enter Tryd.func48, Tryd.ntmps48
  have r1 : ∀ W, Calls Tryd.prog 43 #[.int .i64 X, .int .i64 (m : Int), .int .i64 (n : Int)] W fun e w' => e = .returned (.tuple #[.int .i64 (max X 0), .int .i64 (min (X + m) n)]) ∧ W = w' := fun W => reach_any X m n W (by omega) (by omega) (by omega) (by omega)
  have r2 : ∀ W, Calls Tryd.prog 43 #[.int .i64 Y, .int .i64 (p : Int), .int .i64 (hh : Int)] W fun e w' => e = .returned (.tuple #[.int .i64 (max Y 0), .int .i64 (min (Y + p) hh)]) ∧ W = w' := fun W => reach_any Y p hh W (by omega) (by omega) (by omega) (by omega)
  have R1 : Hid (∀ W, Calls Tryd.prog 43 #[.int .i64 X, .int .i64 (m : Int), .int .i64 (n : Int)] W fun e w' => e = .returned (.tuple #[.int .i64 (max X 0), .int .i64 (min (X + m) n)]) ∧ W = w') := r1
  have R2 : Hid (∀ W, Calls Tryd.prog 43 #[.int .i64 Y, .int .i64 (p : Int), .int .i64 (hh : Int)] W fun e w' => e = .returned (.tuple #[.int .i64 (max Y 0), .int .i64 (min (Y + p) hh)]) ∧ W = w') := r2
  clear r1 r2
  go_wp2_with fail
  refine (R1.out _).mono ?_
  rintro e _ ⟨rfl, rfl⟩
  go_wp2_with fail
  refine (R2.out _).mono ?_
  rintro e _ ⟨rfl, rfl⟩
  rw [HW0.out]
  go_wp2_with fail
  have hv0 := carry hh1 kk
  have HTW : Hid (∀ W, Apart g [g] W0 W → Txt.Tab W) := fun W k => (Tab.next HT.out kk).below k.1 HTP.out
  have HFW : Hid (∀ W, Apart g [g] W0 W → CellsAt W b o fs) := fun W k => (HF.out.below kk).apart k (by simpa using hbg)
  have HFG : Hid (preF n cs (layFn m p fs X Y) hh = layG n hh cs m p fs X Y) := rfl
  have HFL : Hid (KeepLen n (layFn m p fs X Y)) := layFn_len n m p fs X Y
  have HF0 : Hid (∀ y : Nat, (y < hh ∨ hh ≤ y) → ((y : Int) < max Y 0 ∨ ¬ (y : Int) < min (Y + p) hh) → y < hh → ∀ row, layFn m p fs X Y y row = row) := fun y _ hy hyh row => by
    unfold layFn
    rw [if_neg (by omega)]
  have HF1 : Hid (∀ y : Nat, max Y 0 ≤ (y : Int) → (y : Int) < min (Y + p) hh → ∀ row, layFn m p fs X Y y row = mendL (putRow row (layP m X) (layF (rowAt m fs ((y : Int) - Y).toNat) X))) := fun y h1 h2 row => by
    unfold layFn
    rw [if_pos (by omega)]
  have hBt : min (Y + p) (hh : Int) ≤ hh := by omega
  have hBt2 : min (Y + p) (hh : Int) ≤ Y + p := by omega
  have hTT : Y ≤ max Y 0 := by omega
  have hRt : min (X + m) (n : Int) ≤ n := by omega
  have hRt2 : min (X + m) (n : Int) ≤ X + m := by omega
  have hLL : X ≤ max X 0 := by omega
  have hRl : ∀ u : Nat, u < n → ((u : Int) < X + m → (u : Int) < min (X + m) (n : Int)) := by intro u hu h; omega
  have HRl : Hid (∀ u : Nat, u < n → ((u : Int) < X + m → (u : Int) < min (X + m) (n : Int))) := hRl
  have hLl : ∀ u : Nat, X ≤ (u : Int) → max X 0 ≤ (u : Int) := by intro u h; omega
  have HLl : Hid (∀ u : Nat, X ≤ (u : Int) → max X 0 ≤ (u : Int)) := hLl
  clear hRl hLl
  generalize layFn m p fs X Y = F at HFG HFL HF0 HF1
  obtain ⟨T, hT⟩ := Int.eq_ofNat_of_zero_le (show 0 ≤ max Y 0 by omega)
  obtain ⟨Lf, hLf⟩ := Int.eq_ofNat_of_zero_le (show 0 ≤ max X 0 by omega)
  rw [hT] at HF0 HF1 hTT
  rw [hLf] at hLL HLl
  simp only [hT, hLf]
  generalize min (X + m) (n : Int) = Rt at *
  generalize min (Y + p) (hh : Int) = Bt at *
  clear hT hLf R1 R2 HW0
  go_loopg [12] hh (fun q y wr => ∃ k : Nat, y = .int .i64 (k : Int) ∧ T ≤ k ∧ hh - k ≤ q ∧ Apart g [g] W0 wr ∧ wr.heap[g]? = some (.cells (flat (upto n hh cs F k) ++ rest).toArray t (0, 0)))
  case atStart =>
    refine ⟨T, rfl, Nat.le_refl _, by omega, Apart.refl _ _ _, ?_⟩
    have : upto n hh cs F T = cs := by
      unfold upto
      rw [preF_id n cs F _ (fun y hy => HF0.out y (.inl (by omega)) (.inl (by omega)) (by omega) _), List.take_append_drop]
    rw [this]
    exact hv0
  case round =>
    obtain ⟨k, rfl, hk, hq, hap, hv⟩ := hrel
    have v0 := hap.carry x0 (by simp; omega)
    have v1 := hap.carry x1 (by simp; omega)
    by_cases hlt : (k : Int) < Bt
    · have hkh : k < hh := by omega
      obtain ⟨qy, hqy⟩ := Int.eq_ofNat_of_zero_le (show 0 ≤ (k : Int) - Y by omega)
      have hqp : qy < p := by omega
      have hrl := row_len n hh cs k HL.out hkh
      have hfl := row_len m p fs qy HLf.out hqp
      obtain ⟨e0, e1, e2, _⟩ := cells3 v0
      obtain ⟨f0, f1, f2, _⟩ := cells3 v1
      have y0 : ∀ d os, (Sort.grow (redrawn wr d) os).cell? ⟨w.heap.size, 0, none⟩ = some (.int .i64 (n : Int)) := fun d os => cell_regrown e0 d os
      have y1 : ∀ d os, (Sort.grow (redrawn wr d) os).cell? ⟨w.heap.size, 1, none⟩ = some (.int .i64 (hh : Int)) := fun d os => cell_regrown e1 d os
      have y2 : ∀ d os, (Sort.grow (redrawn wr d) os).cell? ⟨w.heap.size, 2, none⟩ = some (.slice (some ⟨g, 0, none⟩) cs.length cap) := fun d os => cell_regrown e2 d os
      have z0 : ∀ d os, (Sort.grow (redrawn wr d) os).cell? ⟨w.heap.size + 1, 0, none⟩ = some (.int .i64 (m : Int)) := fun d os => cell_regrown f0 d os
      have z1 : ∀ d os, (Sort.grow (redrawn wr d) os).cell? ⟨w.heap.size + 1, 1, none⟩ = some (.int .i64 (p : Int)) := fun d os => cell_regrown f1 d os
      have z2 : ∀ d os, (Sort.grow (redrawn wr d) os).cell? ⟨w.heap.size + 1, 2, none⟩ = some (.slice (some ⟨b, o, none⟩) fs.length cx) := fun d os => cell_regrown f2 d os
      have K1 : Hid (∀ d os, Calls Tryd.prog 36 #[.agg #[.int .i64 (n : Int), .int .i64 (hh : Int), .slice (some ⟨g, 0, none⟩) cs.length cap], .int .i64 (k : Int)] (Sort.grow (redrawn wr d) os) fun e w'' => e = .returned (.slice (some ⟨g, 0 + k * n * 4, none⟩) n (cap - k * n)) ∧ ∃ p : Regrown, w'' = Sort.grow (redrawn wr p.d) p.os) := fun d os => Calls.regrown_of (rowOf_any g 0 cs.length cap n k hh _ hn1 (row_fits n hh _ k HL.out hkh) hlc hcm)
      have K2 : Hid (∀ d os, Calls Tryd.prog 36 #[.agg #[.int .i64 (m : Int), .int .i64 (p : Int), .slice (some ⟨b, o, none⟩) fs.length cx], .int .i64 (qy : Int)] (Sort.grow (redrawn wr d) os) fun e w'' => e = .returned (.slice (some ⟨b, o + qy * m * 4, none⟩) m (cx - qy * m)) ∧ ∃ p : Regrown, w'' = Sort.grow (redrawn wr p.d) p.os) := fun d os => Calls.regrown_of (rowOf_any b o fs.length cx m qy p _ hm1 (row_fits m p _ qy HLf.out hqp) hlf hcx)
      have hsub : IntKind.i64.wrap ((k : Int) - Y) = (qy : Int) := by rw [hqy]; exact IntWalk.i64_in _ (by omega)
      have HQY : Hid (((k : Int) - Y).toNat = qy) := by unfold Hid; rw [hqy]; rfl
      clear hqy e0 e1 e2 f0 f1 f2
      go_wp2_with fail
      refine wp_region_quiet_below (by kernel_rfl) (by kernel_rfl) ?_
      repeat (first | go_big_quiet_skip | quiet_step (first | (go_at_call_of 36 qy; exact K2.out _ _) | (go_at_call_of 36 cap; exact K1.out _ _)))
      refine wpQuiet_nil ?_
      intro _ hw'
      obtain ⟨⟨dq, os⟩, hw''⟩ := hw'
      subst hw''
      have kR := below_regrown wr dq os
      have ap5 : Apart g [g] W0 (Sort.grow (redrawn wr dq) os) := hap.step kR (Nat.le_of_lt (blk_lt hv))
      have hv5 := carry hv kR
      clear K1 K2 y0 y1 y2 z0 z1 z2 v0 v1 kR hap hv
      generalize Sort.grow (redrawn wr dq) os = V at *
      have HE : Hid (flat (upto n hh cs F k) ++ rest = flat (preF n cs F k) ++ (flat (rowAt n cs k) ++ (flat (cs.drop ((k + 1) * n)) ++ rest))) := by
        unfold Hid
        rw [upto_at n hh cs F k hkh, flat_three]
      have HN : Hid (flat (upto n hh cs F (k + 1)) ++ rest = flat (preF n cs F k) ++ (flat (F k (rowAt n cs k)) ++ (flat (cs.drop ((k + 1) * n)) ++ rest))) := by
        unfold Hid
        rw [upto_next n hh cs F k hkh, flat_three]
      have HFk : Hid (F k (rowAt n cs k) = mendL (putRow (rowAt n cs k) (layP m X) (layF (rowAt m fs qy) X))) := by
        have := HF1.out k (by omega) hlt (rowAt n cs k)
        rw [HQY.out] at this
        exact this
      have hpl : (flat (preF n cs F k)).length = k * n * 4 := by rw [flat_len, preF_len n hh cs F HL.out HFL.out k (by omega)]
      have HPL : Hid ((flat (preF n cs F k)).length = k * n * 4) := hpl
      have HFR : Hid (∀ W, Apart g [g] W0 W → CellsAt W b (o + qy * m * 4) (rowAt m fs qy)) := fun W k' => (HFW.out W k').part (qy * m) m (by have := row_fits m p _ qy HLf.out hqp; rw [Nat.add_mul, Nat.one_mul] at this; omega)
      rw [HE.out] at hv5
      clear hpl HE HQY
      generalize flat (preF n cs F k) = pre at *
      generalize flat (cs.drop ((k + 1) * n)) ++ rest = post at *
      have HRL : Hid ((rowAt n cs k).length = n) := hrl
      have HFRL : Hid ((rowAt m fs qy).length = m) := hfl
      have HMR : Hid (Alike (putRow (rowAt n cs k) (layP m X) (layF (rowAt m fs qy) X))) := by
        have := (meant_lay (rowAt n cs k) (rowAt m fs qy) X (HMC.out k hkh) (HRF.out qy hqp)).alike
        rw [hfl] at this
        exact this
      clear hrl hfl
      generalize rowAt n cs k = row at *
      generalize rowAt m fs qy = frow at *
      generalize k * n * 4 = off at *
      generalize o + qy * m * 4 = fo at *
      go_wp2_with fail
      go_loopg [15] n (fun q xx wv => ∃ j : Nat, xx = .int .i64 (j : Int) ∧ Lf ≤ j ∧ n - j ≤ q ∧ Apart g [g] W0 wv ∧ wv.heap[g]? = some (.cells (pre ++ (flat (putRow row (fun u => layP m X u && decide (u < j)) (layF frow X)) ++ post)).toArray t (0, 0)))
      case atStart =>
        refine ⟨Lf, rfl, Nat.le_refl _, by omega, ap5, ?_⟩
        rw [putRow_none]
        · exact hv5
        · intro u hu
          unfold layP
          have := HLl.out u
          simp
          omega
      case round =>
        clear ap5 hv5
        obtain ⟨j, rfl, hj, hq2, hap, hv⟩ := hrel
        by_cases hlt2 : (j : Int) < Rt
        · have hjn : j < n := by omega
          obtain ⟨u, hu⟩ := Int.eq_ofNat_of_zero_le (show 0 ≤ (j : Int) - X by omega)
          have hum : u < m := by omega
          have hrg := range_cell (HFR.out wr hap) u (by rw [HFRL.out]; exact hum)
          have HLF : Hid (layF frow X j = frow.getD u z0) := by unfold Hid layF; rw [hu]; rfl
          have hth := there_cell hv j (by rw [putRow_len, HRL.out]; exact hjn)
          have hst := store_cell hv j (by rw [putRow_len, HRL.out]; exact hjn) (layF frow X j)
          rw [putRow_set row _ (fun u => layP m X u && decide (u < j + 1)) (layF frow X) j (by rw [HRL.out]; exact hjn) (fun v _ => by
            by_cases hvj : v = j
            · subst hvj; unfold layP; simp; omega
            · simp only [hvj, decide_false, Bool.or_false]
              rw [show decide (v < j + 1) = decide (v < j) by rw [decide_eq_decide]; omega])] at hst
          rw [HPL.out] at hth hst
          rw [HLF.out] at hst
          rcases hce : frow.getD u z0 with ⟨r, f, bk, x⟩
          rw [hce] at hrg hst
          have HRG : Hid (wr.rangeAt b (fo + u * 4) (words (r, f, bk, x))) := hrg
          have HST : Hid ((wr.setCells g (off + j * 4) (words (r, f, bk, x))).heap[g]? = some (.cells (pre ++ (flat (putRow row (fun u => layP m X u && decide (u < j + 1)) (layF frow X)) ++ post)).toArray t (0, 0))) := hst
          have HTH : Hid (wr.there g (off + j * 4) 4) := hth
          have HAP : Hid (Apart g [g] W0 (wr.setCells g (off + j * 4) (words (r, f, bk, x)))) := hap.setCells g _ _ (by simp) (Nat.le_refl _)
          have hub : (u : Int) < (m : Int) := by omega
          clear hst hth hap hv hce hrg HLF
          go_wp2_with (first
            | (refine wpList_load_mid rfl 40 (.tmp 60) rfl b (fo + u * 4) rfl (words (r, f, bk, x)) _ HRG.out Tryd.underlying40 rfl size_cellO ?_)
            | (refine wpList_store_cellO rfl (.tmp 62) (.tmp 61) rfl g (off + j * 4) (r, f, bk, x) rfl rfl HTH.out ?_
               intro Z hZ
               have hvZ := HST.out
               have apZ := HAP.out
               rw [← hZ] at hvZ apZ
               clear hZ))
          go_roundg (n - (j + 1))
          case measure => omega
          case rel => exact ⟨j + 1, rfl, by omega, by omega, apZ, hvZ⟩
        · have HEQ : Hid (putRow row (fun u => layP m X u && decide (u < j)) (layF frow X) = putRow row (layP m X) (layF frow X)) := putRow_congr _ _ _ _ _ (fun u hu => ⟨by
            have := HRl.out u (by rw [HRL.out] at hu; exact hu)
            unfold layP
            rw [Bool.eq_iff_iff]
            simp
            omega, fun _ => rfl⟩)
          rw [HEQ.out] at hv
          have KM := mend_any g (cap - k * n) (putRow row (layP m X) (layF frow X)) pre post t wr hv (by rw [putRow_len, HRL.out]; omega) (HTW.out _ hap) HTP.out HMR.out
          rw [putRow_len, HRL.out, HPL.out, ← HFk.out, ← HN.out] at KM
          have HKM : Hid (Calls Tryd.prog 45 #[.slice (some ⟨g, off, none⟩) n (cap - k * n)] wr fun e w' => e = .returned (.tuple #[]) ∧ w'.heap[g]? = some (.cells (flat (upto n hh cs F (k + 1)) ++ rest).toArray t (0, 0)) ∧ Apart g [g] wr w') := KM
          have HAP : Hid (Apart g [g] W0 wr) := hap
          clear KM HEQ hv hap
          go_wp2_with fail
          refine HKM.out.mono ?_
          rintro e W6 ⟨rfl, hv6, ap6⟩
          go_wp2_with fail
          go_roundg (hh - (k + 1))
          case measure => omega
          case rel => exact ⟨k + 1, rfl, by omega, by omega, HAP.out.trans ap6, hv6⟩
    · have HEN : Hid (upto n hh cs F k = preF n cs F hh) := by
        unfold Hid upto
        by_cases hkh : k ≤ hh
        · rw [Nat.min_eq_left hkh]
          exact (preF_rest n hh cs F HL.out k (hh - k) (by omega) (fun y h1 h2 => HF0.out y (.inl h2) (.inr (by omega)) h2 _)).symm
        · rw [Nat.min_eq_right (by omega), List.drop_of_length_le (by rw [HL.out, Nat.mul_comm]; exact Nat.le_refl _), List.append_nil]
      go_wp2_with fail
      go_end0
      refine ⟨rfl, ?_, ?_⟩
      · rw [← HFG.out, ← HEN.out]; exact hv
      · exact (Apart.of kk (by omega)).trans (hap.mono (Nat.le_refl _) (fun _ h => h))
end Grd
end Go.Proofs.YtinhmklpnkikgaaDoor
