/- The walks of style.isLong and style.Apply. -/
import Derived.Test.YthnphjdpifpehaaDoorStyleOne
import Derived.Deep.RegionWith
namespace Go.Proofs.YthnphjdpifpehaaDoor
open Go.ChangeShapes Go.WideShapes Go.ChangeAt Go.RowKit
namespace Sty

/-- What numbers make of a style, one behind the other. -/
def applyL : Int × Int × Int → List Int → Int × Int × Int
  | s, [] => s
  | s, [a] => one s a
  | s, [a, b] => one (one s a) b
  | s, a :: b :: c :: l => if (a = 38 ∨ a = 48) ∧ b = 5 then applyL (lng s a c) l else applyL (one s a) (b :: c :: l)
def isLg : List Int → Bool
  | a :: b :: _ :: _ => decide ((a = 38 ∨ a = 48) ∧ b = 5)
  | _ => false
theorem applyL_long (s : Int × Int × Int) (l : List Int) (h : isLg l = true) : applyL s l = applyL (lng s (l.getD 0 0) (l.getD 2 0)) (l.drop 3) := by
  match l, h with
  | a :: b :: c :: l, h =>
    simp only [isLg, decide_eq_true_eq] at h
    rw [applyL, if_pos h]
    rfl
theorem applyL_one (s : Int × Int × Int) (a : Int) (l : List Int) (h : isLg (a :: l) = false) : applyL s (a :: l) = applyL (one s a) l := by
  match l, h with
  | [], _ => rfl
  | [b], _ => rfl
  | b :: c :: l, h =>
    simp only [isLg, decide_eq_false_iff_not] at h
    rw [applyL, if_neg h]

theorem cell_lt {w : World} {a : Addr} {v : Value} (h : w.cell? a = some v) : a.block < w.heap.size := by
  simp only [World.cell?] at h
  cases hh : w.heap[a.block]? with
  | none => rw [hh] at h; cases h
  | some o => exact (Array.getElem?_eq_some_iff.1 hh).1
/-- A slice of ints that lies in memory. -/
def Row (w : World) (b o : Nat) (xs : List Int) : Prop := ∀ j, j < xs.length → w.cell? ⟨b, o + j, none⟩ = some (.int .i64 (xs.getD j 0))
theorem Row.below {w w' : World} {b o : Nat} {xs : List Int} (h : Row w b o xs) (hb : Below w.heap.size w w') : Row w' b o xs :=
  fun j hj => (hb.cell (cell_lt (h j hj))).trans (h j hj)
theorem Row.drop {w : World} {b o : Nat} {xs : List Int} (h : Row w b o xs) (k : Nat) : Row w b (o + k) (xs.drop k) := by
  intro j hj
  have := h (k + j) (by simp at hj; omega)
  rw [show o + k + j = o + (k + j) by omega, this]
  simp [List.getD]
theorem Row.lt {w : World} {b o : Nat} {xs : List Int} (h : Row w b o xs) (h0 : xs ≠ []) : b < w.heap.size := by
  have := h 0 (by cases xs; exact absurd rfl h0; simp)
  exact cell_lt this

theorem isLong_any (b o c : Nat) (xs : List Int) (w : World) (hR : Row w b o xs) (hlen : xs.length ≤ 140737488355328) :
    Calls Tryd.prog 18 #[.slice (some ⟨b, o, none⟩) xs.length c] w fun e w' => e = .returned (.bool (isLg xs)) ∧ w = w' := by
  by_cases h2 : 2 < xs.length
  · match xs, h2 with
    | x :: y :: z :: l, _ =>
      have c0 := hR 0 (by simp)
      have c1 := hR 1 (by simp)
      simp only [List.getD_cons_zero, Nat.add_zero, List.getD_cons_succ, List.length_cons] at c0 c1 hlen ⊢
      simp only [isLg]
      clear hR
      go_enter Tryd.func18, Tryd.ntmps18
      go_wp2
      all_goals (go_ret; exact ⟨ret_bool (by rw [Bool.eq_iff_iff]; simp; try omega), rfl⟩)
  · have HE : Hid (isLg xs = false) := by
      match xs, h2 with
      | [], _ | [_], _ | [_, _], _ => rfl
      | _ :: _ :: _ :: _, h => simp at h
    rw [HE.out]
    clear HE hR
    generalize xs.length = n at *
    go_enter Tryd.func18, Tryd.ntmps18
    go_wp2
    all_goals (go_ret; exact ⟨rfl, rfl⟩)

theorem long_agg (f b x l0 l1 l2 : Int) (a n : Int) (w : World) (h : lng (f, b, x) a n = (l0, l1, l2)) :
    Calls Tryd.prog 19 #[.agg #[.int .i64 f, .int .i64 b, .int .i64 x], .int .i64 a, .int .i64 n] w fun e w' => e = .returned (.agg #[.int .i64 l0, .int .i64 l1, .int .i64 l2]) ∧ Below w.heap.size w w' := by
  have := long_any (f, b, x) a n w
  rwa [h] at this
theorem one_agg (f b x l0 l1 l2 : Int) (n : Int) (w : World) (hT : Tab w) (hn : n ≤ 9223372036854775807) (h : one (f, b, x) n = (l0, l1, l2)) :
    Calls Tryd.prog 20 #[.agg #[.int .i64 f, .int .i64 b, .int .i64 x], .int .i64 n] w fun e w' => e = .returned (.agg #[.int .i64 l0, .int .i64 l1, .int .i64 l2]) ∧ Below w.heap.size w w' := by
  have := one_any (f, b, x) n w hT hn
  rwa [h] at this
theorem set3 {W : World} {g : Nat} {t : TypeId} {a b c : Value} (h : W.heap[g]? = some (.cells #[a, b, c] t (0, 0))) (p q r : Value) :
    (((W.setCell ⟨g, 0, none⟩ p).setCell ⟨g, 1, none⟩ q).setCell ⟨g, 2, none⟩ r).heap[g]? = some (.cells #[p, q, r] t (0, 0)) :=
  heap_setCell_same _ _ _ _ _ _ (heap_setCell_same _ _ _ _ _ _ (heap_setCell_same _ _ _ _ _ _ h))
theorem set3_other {W : World} {g k : Nat} (hk : k ≠ g) (p q r : Value) :
    (((W.setCell ⟨g, 0, none⟩ p).setCell ⟨g, 1, none⟩ q).setCell ⟨g, 2, none⟩ r).heap[k]? = W.heap[k]? := by
  rw [heap_setCell_other _ _ _ _ hk, heap_setCell_other _ _ _ _ hk, heap_setCell_other _ _ _ _ hk]
theorem set3_below {B : Nat} {w W : World} {g : Nat} (h : Below B w W) (hg : B ≤ g) (p q r : Value) :
    Below B w (((W.setCell ⟨g, 0, none⟩ p).setCell ⟨g, 1, none⟩ q).setCell ⟨g, 2, none⟩ r) := ((h.setCell hg _).setCell hg _).setCell hg _
theorem set3_size {W : World} {g : Nat} (p q r : Value) :
    (((W.setCell ⟨g, 0, none⟩ p).setCell ⟨g, 1, none⟩ q).setCell ⟨g, 2, none⟩ r).heap.size = W.heap.size := by simp
theorem drop_cons (xs : List Int) (k : Nat) (hk : k < xs.length) : xs.drop k = xs.getD k 0 :: xs.drop (k + 1) := by
  rw [List.drop_eq_getElem_cons hk]
  simp [List.getD, hk]
set_option maxHeartbeats 4000000 in
theorem apply_some (s : Int × Int × Int) (b o c : Nat) (xs : List Int) (w : World) (hT : Tab w) (hR : Row w b o xs) (h0 : xs ≠ []) (hlen : xs.length ≤ 140737488355328) (hc : xs.length ≤ c)
    (hw : ∀ x ∈ xs, x ≤ 9223372036854775807) :
    Calls Tryd.prog 9 #[stv s, .slice (some ⟨b, o, none⟩) xs.length c] w fun e w' => e = .returned (stv (applyL s xs)) ∧ Below w.heap.size w w' := by
  obtain ⟨f, bk, x⟩ := s
  have hpos : 0 < xs.length := by cases xs; exact absurd rfl h0; simp
  have HT : Hid (Tab w) := hT
  have HR : Hid (Row w b o xs) := hR
  have HW : Hid (∀ x ∈ xs, x ≤ 9223372036854775807) := hw
  clear hT hR hw h0
  unfold stv
  go_enter Tryd.func9, Tryd.ntmps9
  go_wp2_with fail
  have hz : ((xs.length : Int) == 0) = false := by simp only [beq_eq_false_iff_ne, ne_eq]; omega
  rw [hz]
  go_loopg [1] xs.length (fun g l wr => ∃ (k m cp : Nat) (ad : Addr) (s : Int × Int × Int), k ≤ xs.length ∧ xs.length - k ≤ g ∧ l = .slice (some ad) m cp ∧ k + m = xs.length ∧ m ≤ cp ∧ (0 < m → ad = ⟨b, o + k, none⟩) ∧ Below w.heap.size w wr ∧ w.heap.size + 2 ≤ wr.heap.size ∧ wr.heap[w.heap.size]? = some (.cells #[.int .i64 s.1, .int .i64 s.2.1, .int .i64 s.2.2] 23 (0, 0)) ∧ wr.heap[w.heap.size + 1]? = some (.cells #[.int .i64 0, .int .i64 0, .int .i64 0] 23 (0, 0)) ∧ applyL s (xs.drop k) = applyL (f, bk, x) xs)
  case atStart => exact ⟨0, xs.length, c, ⟨b, o, none⟩, (f, bk, x), by omega, by omega, rfl, by omega, hc, fun _ => rfl, ((Below.refl _ _).alloc (Nat.le_refl _) _).alloc (by simp) _, by simp, (Below.heap_alloc _ _ _ (by simp)).trans (heap_alloc_new _ _), new2 w _ _ _, rfl⟩
  case round =>
    obtain ⟨k, m, cp, ad, s, hk, hg, rfl, hm, hcp, had, hb, hsz, hv, hr, hl⟩ := hrel
    have HL : Hid (applyL s (xs.drop k) = applyL (f, bk, x) xs) := hl
    clear hl
    have HRk : Hid (Row wr b (o + k) (xs.drop k)) := fun j hj => by
      have h := HR.out.drop k j hj
      exact (hb.cell (cell_lt h)).trans h
    have hlen : (xs.drop k).length = xs.length - k := by simp
    by_cases hlt : k < xs.length
    · obtain rfl := had (by omega)
      have hTk : Hid (Tab wr) := HT.out.below hb HT.out.pos
      have KL : Hid (Calls Tryd.prog 18 #[.slice (some ⟨b, o + k, none⟩) m cp] wr fun e w' => e = .returned (.bool (isLg (xs.drop k))) ∧ wr = w') := by
        have := isLong_any b (o + k) cp (xs.drop k) wr HRk.out (by omega)
        rwa [hlen, show xs.length - k = m by omega] at this
      obtain ⟨f', b', x'⟩ := s
      by_cases hlg : isLg (xs.drop k) = true
      · have h3 : k + 2 < xs.length := by
          match hxs : xs.drop k, hlg with
          | _ :: _ :: _ :: l, _ =>
            rw [hxs] at hlen
            simp at hlen
            omega
        rw [hlg] at KL
        have q0 : wr.cell? ⟨b, o + k, none⟩ = some (.int .i64 ((xs.drop k).getD 0 0)) := HRk.out 0 (by omega)
        have q2 : wr.cell? ⟨b, o + k + 2, none⟩ = some (.int .i64 ((xs.drop k).getD 2 0)) := HRk.out 2 (by omega)
        have HE : Hid (applyL (f', b', x') (xs.drop k) = applyL (lng (f', b', x') ((xs.drop k).getD 0 0) ((xs.drop k).getD 2 0)) (xs.drop (k + 3))) := by
          have := applyL_long (f', b', x') (xs.drop k) hlg
          rwa [List.drop_drop] at this
        generalize (xs.drop k).getD 0 0 = y0 at *
        generalize (xs.drop k).getD 2 0 = y2 at *
        rcases hlg3 : lng (f', b', x') y0 y2 with ⟨l0, l1, l2⟩
        have HG : Hid (lng (f', b', x') y0 y2 = (l0, l1, l2)) := hlg3
        clear hlg3
        have ⟨c0, c1, c2, cf⟩ := cells_of hv
        clear hlen
        go_wp2_with (go_at_call 18; refine KL.out.mono ?_; rintro e W1 ⟨rfl, rfl⟩)
        go_region_with (go_at_call 19; refine (long_agg f' b' x' l0 l1 l2 y0 y2 _ HG.out).mono ?_; rintro e W1 ⟨rfl, hb1⟩; have hv1 : W1.heap[w.heap.size]? = _ := (hb1.block _ (show w.heap.size < wr.heap.size by omega)).trans hv; have ⟨e0, e1, e2, ef⟩ := cells_of hv1; have ef0 := ef 0; have ef1 := ef 1; have ef2 := ef 2)
        all_goals (
          go_wp2_with fail
          all_goals (
            go_roundg (xs.length - (k + 3))
            case measure => omega
            case rel =>
              have hb1' : Below wr.heap.size wr W1 := ⟨hb1.os, hb1.tape, hb1.output, hb1.size, hb1.block⟩
              have hs1 := hb1'.size
              refine ⟨k + 3, m - 3, _, _, (l0, l1, l2), by omega, by omega, rfl, by omega, by omega, ?_, set3_below (hb.trans (hb1'.mono hb.size)) (Nat.le_refl _) _ _ _, ?_, set3 hv1 _ _ _, (set3_other (by omega) _ _ _).trans ((hb1'.block _ (by omega)).trans hr), ?_⟩
              · intro hpos
                first | rfl | omega
              · rw [set3_size]; omega
              · rw [← HL.out, HE.out, HG.out]))
      · have hlg : isLg (xs.drop k) = false := by simpa using hlg
        rw [hlg] at KL
        have q0 : wr.cell? ⟨b, o + k, none⟩ = some (.int .i64 (xs.getD k 0)) := by
          have := HRk.out 0 (by omega)
          rw [drop_cons xs k hlt] at this
          simpa using this
        have HE : Hid (applyL (f', b', x') (xs.drop k) = applyL (one (f', b', x') (xs.getD k 0)) (xs.drop (k + 1))) := by
          unfold Hid
          rw [drop_cons xs k hlt] at hlg ⊢
          exact applyL_one _ _ _ hlg
        have hy : xs.getD k 0 ≤ 9223372036854775807 := HW.out _ (by simp [List.getD, hlt])
        clear hlg
        generalize xs.getD k 0 = y0 at *
        rcases hlg3 : one (f', b', x') y0 with ⟨l0, l1, l2⟩
        have HG : Hid (one (f', b', x') y0 = (l0, l1, l2)) := hlg3
        clear hlg3
        have ⟨c0, c1, c2, cf⟩ := cells_of hv
        clear hlen
        go_wp2_with (go_at_call 18; refine KL.out.mono ?_; rintro e W1 ⟨rfl, rfl⟩)
        go_region_with (go_at_call 20; refine (one_agg f' b' x' l0 l1 l2 y0 wr.drew hTk.out hy HG.out).mono ?_; rintro e W1 ⟨rfl, hb1⟩; have hv1 : W1.heap[w.heap.size]? = _ := (hb1.block _ (show w.heap.size < wr.heap.size by omega)).trans hv; have ⟨e0, e1, e2, ef⟩ := cells_of hv1; have ef0 := ef 0; have ef1 := ef 1; have ef2 := ef 2)
        all_goals (
          go_wp2_with fail
          all_goals (
            go_roundg (xs.length - (k + 1))
            case measure => omega
            case rel =>
              have hb1' : Below wr.heap.size wr W1 := ⟨hb1.os, hb1.tape, hb1.output, hb1.size, hb1.block⟩
              have hs1 := hb1'.size
              refine ⟨k + 1, m - 1, _, _, (l0, l1, l2), by omega, by omega, rfl, by omega, by omega, ?_, set3_below (hb.trans (hb1'.mono hb.size)) (Nat.le_refl _) _ _ _, ?_, set3 hv1 _ _ _, (set3_other (by omega) _ _ _).trans ((hb1'.block _ (by omega)).trans hr), ?_⟩
              · intro hpos
                first | rfl | omega
              · rw [set3_size]; omega
              · rw [← HL.out, HE.out, HG.out]))
    · have hk2 : k = xs.length := by omega
      have hm0 : m = 0 := by omega
      subst hm0
      obtain ⟨f', b', x'⟩ := s
      have HE : Hid ((f', b', x') = applyL (f, bk, x) xs) := by
        have := HL.out
        rw [hk2, List.drop_length] at this
        exact this
      go_wp2_with (first | (refine wpList_load_row rfl 23 (.tmp 2) rfl w.heap.size rfl _ _ _ _ hv Tryd.underlying23 rfl (by kernel_rfl) ?_) | (refine wpList_store_row rfl 23 (.tmp 4) (.tmp 31) rfl (w.heap.size + 1) #[.int .i64 f', .int .i64 b', .int .i64 x'] rfl rfl _ _ hr (by kernel_rfl) rfl (one3 _ _ _) ?_))
      (try simp only [Exit.inBlock, Exit.then])
      refine bodyPost_ret (v := stv (f', b', x')) ?_ rfl ⟨by rw [HE.out]; rfl, below_setRow hb (by omega) _⟩
      exact results_cell_row rfl _ _ (w.heap.size + 1) _ _ _ _ rfl (setRow_heap _ _ _ _ _ _ hr) Tryd.underlying23 rfl (by kernel_rfl)

end Sty
end Go.Proofs.YthnphjdpifpehaaDoor
