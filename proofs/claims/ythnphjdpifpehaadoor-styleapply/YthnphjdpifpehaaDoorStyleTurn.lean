/- The walks of style.Numbers and style.Turn. -/
import Derived.Test.YthnphjdpifpehaaDoorStyleNums
import Derived.Laws.AppendOwnNone
namespace Go.Proofs.YthnphjdpifpehaaDoor
open Go.ChangeShapes Go.WideShapes Go.ChangeAt Go.RowKit
namespace Sty
def numsOf (s : Int × Int × Int) : List Int := if isSt s then addsL (0, 0, 0) s else []
set_option maxHeartbeats 1000000 in
theorem numbers_own (f b x : Int) (w : World) (hT : Tab w) :
    Calls Tryd.prog 12 #[.agg #[.int .i64 f, .int .i64 b, .int .i64 x]] w fun e w' => ∃ v', e = .returned v' ∧ w'.ownsRow w.heap.size 3 1 v' (numsOf (f, b, x)).length (vals (numsOf (f, b, x))) ∧ (numsOf (f, b, x) = [] → v' = .slice none 0 0) ∧ Below w.heap.size w w' := by
  have HT : Hid (Tab w) := hT
  clear hT
  have b0 : ∀ ob, Below w.heap.size w (w.alloc ob) := fun ob => (Below.refl _ _).alloc (Nat.le_refl _) _
  cases hc : isSt (f, b, x) with
  | false =>
    have HC : Hid (isSt (f, b, x) = false) := hc
    have HE : Hid (numsOf (f, b, x) = []) := by unfold Hid numsOf; rw [hc]; rfl
    clear hc
    go_enter Tryd.func12, Tryd.ntmps12
    go_wp2_with (go_at_call 7; refine (check_agg f b x _ _ HC.out).mono ?_; rintro e W1 ⟨rfl, b1⟩)
    go_ret
    exact ⟨_, rfl, by rw [HE.out]; exact ⟨rfl, .inl ⟨rfl, rfl⟩⟩, fun _ => rfl, (b0 _).trans (b1.mono (by simp))⟩
  | true =>
    have HC : Hid (isSt (f, b, x) = true) := hc
    have HE : Hid (numsOf (f, b, x) = addsL (0, 0, 0) (f, b, x)) := by unfold Hid numsOf; rw [hc]; rfl
    have hi := (isSt_iff _).1 hc
    obtain ⟨h1, h2, h3, h4, _⟩ := hi
    dsimp only at h1 h2 h3 h4
    clear hc
    go_enter Tryd.func12, Tryd.ntmps12
    go_wp2_with (first
      | (go_at_call 7; refine (check_agg f b x _ _ HC.out).mono ?_; rintro e W1 ⟨rfl, b1⟩; have hv1 := (b1.block w.heap.size (by simp)).trans (heap_alloc_new w _); have ⟨c0, c1, c2, cf⟩ := cells_of hv1; have k1 : Below w.heap.size w W1 := (b0 _).trans (b1.mono (by simp)))
      | (go_at_call 21; refine (additions_own 0 0 0 f b x _ (HT.out.next k1) h1 h2 h3 h4).mono ?_; rintro e W2 ⟨v2, rfl, own2, nil2, b2⟩))
    go_ret
    exact ⟨_, rfl, by rw [HE.out]; exact own_mono own2 k1.size, by rw [HE.out]; exact nil2, k1.trans (b2.mono k1.size)⟩
def turnOf (a b : Int × Int × Int) : List Int :=
  if a = b ∨ isSt a = false ∨ isSt b = false then [] else if b = (0, 0, 0) ∨ bits .andNot .i64 a.2.2 b.2.2 ≠ 0 then 0 :: numsOf b else addsL a b
theorem bits_nil : ∀ y : Fin 128, bitsL 0 (y.1 : Int) looks = [] → y.1 = 0 := by decide +kernel
theorem nums_nil (s : Int × Int × Int) (h : isSt s = true) (hn : numsOf s = []) : s = (0, 0, 0) := by
  obtain ⟨f, b, x⟩ := s
  have hi := (isSt_iff _).1 h
  dsimp only at hi
  unfold numsOf at hn
  rw [h] at hn
  simp only [if_true, addsL, List.append_eq_nil_iff] at hn
  obtain ⟨⟨h1, h2⟩, h3⟩ := hn
  have hx := bits_nil ⟨x.toNat, by omega⟩ (by rw [show ((x.toNat : Nat) : Int) = x by omega]; exact h1)
  have hf : f = 0 := by
    by_cases e : f = 0
    · exact e
    · rw [if_neg e] at h2; exact absurd h2 (colL_ne _ _)
  have hb : b = 0 := by
    by_cases e : b = 0
    · exact e
    · rw [if_neg e] at h3; exact absurd h3 (colL_ne _ _)
  dsimp only at hx
  rw [hf, hb, show x = 0 by omega]
theorem nums_zero : numsOf (0, 0, 0) = [] := by decide +kernel
theorem nums_len (s : Int × Int × Int) : (numsOf s).length ≤ 100 := by
  have hcl : ∀ c m : Int, (colL c m).length ≤ 3 := by
    intro c m
    unfold colL
    repeat' split
    all_goals simp
  have hb : (bitsL 0 s.2.2 looks).length ≤ 7 := by
    unfold bitsL
    rw [List.length_map]
    exact List.length_filter_le _ _
  unfold numsOf addsL
  have h1 := hcl s.1 0
  have h2 := hcl s.2.1 10
  split
  · simp only [List.length_append]
    split <;> split <;> simp <;> omega
  · simp
theorem own_some {w : World} {base : Nat} {v : Value} {xs : List Int} (h : w.ownsRow base 3 1 v xs.length (vals xs)) (h0 : xs ≠ []) : ∃ g cap, v = .slice (some ⟨g, 0, none⟩) xs.length cap := by
  rcases h.2 with ⟨_, hl⟩ | ⟨g, cap, _, hv, _⟩
  · exact absurd (List.length_eq_zero_iff.1 hl) h0
  · exact ⟨g, cap, hv⟩
theorem own_news {w : World} {base g cap : Nat} {xs : List Int} (h : w.ownsRow base 3 1 (.slice (some ⟨g, 0, none⟩) xs.length cap) xs.length (vals xs)) :
    ∀ j u, (vals xs)[j]? = some u → w.cell? ((⟨g, 0, none⟩ : Addr).add j) = some u := by
  intro j u hu
  rcases h.2 with ⟨he, _⟩ | ⟨g', cap', cur, hv, _, hh, _, _, _, htk⟩
  · cases he
  · simp only [Value.slice.injEq, Option.some.injEq, Addr.mk.injEq] at hv
    obtain ⟨⟨rfl, _, _⟩, _, _⟩ := hv
    rw [add_plain, Nat.zero_add]
    rw [← htk] at hu
    have hj := List.getElem?_take (l := cur.toList) (i := xs.length * 1) (j := j)
    rw [hj] at hu
    split at hu
    · simp only [World.cell?, hh]
      simpa using hu
    · cases hu
theorem blk_lt {w : World} {g : Nat} {o : Obj} (h : w.heap[g]? = some o) : g < w.heap.size := (Array.getElem?_eq_some_iff.1 h).1
theorem blocks3 {w W : World} {c1 c2 c3 : Array Value} {t : TypeId} (h : Below (((w.alloc (.cells c1 t)).alloc (.cells c2 t)).alloc (.cells c3 t)).heap.size (((w.alloc (.cells c1 t)).alloc (.cells c2 t)).alloc (.cells c3 t)) W) :
    W.heap[w.heap.size]? = some (.cells c1 t (0, 0)) ∧ W.heap[w.heap.size + 1]? = some (.cells c2 t (0, 0)) ∧ W.heap[w.heap.size + 1 + 1]? = some (.cells c3 t (0, 0)) := by
  refine ⟨?_, ?_, ?_⟩
  · rw [h.block _ (by simp; omega), Below.heap_alloc _ _ _ (by simp; omega), Below.heap_alloc _ _ _ (by simp)]; exact heap_alloc_new _ _
  · rw [h.block _ (by simp), Below.heap_alloc _ _ _ (by simp)]; exact new2 w _ _ _
  · rw [h.block _ (by simp)]
    have := new2 (w.alloc (.cells c1 t)) (.cells c2 t) c3 t
    simpa using this
theorem eq_agg (a b c d e f : Int) (w : World) : (binOp .eql 23 (.agg #[.int .i64 a, .int .i64 b, .int .i64 c]) (.agg #[.int .i64 d, .int .i64 e, .int .i64 f])).run Tryd.prog w = .ok (.bool (decide ((a, b, c) = (d, e, f)))) w := by
  by_cases h1 : a = d
  · by_cases h2 : b = e
    · by_cases h3 : c = f
      · subst h1 h2 h3; simp [go_sem]
      · subst h1 h2; simp [go_sem, h3]
    · subst h1; simp [go_sem, h2]
  · simp [go_sem, h1]
set_option maxHeartbeats 4000000 in
theorem turn_adds (af ab ax bf bb bx : Int) (w : World) (hT : Tab w) (hne : (af, ab, ax) ≠ (bf, bb, bx)) (ha : isSt (af, ab, ax) = true) (hb : isSt (bf, bb, bx) = true)
    (hz : (bf, bb, bx) ≠ (0, 0, 0)) (hbits : (bits .andNot .i64 ax bx != 0) = false) :
    Calls Tryd.prog 14 #[.agg #[.int .i64 af, .int .i64 ab, .int .i64 ax], .agg #[.int .i64 bf, .int .i64 bb, .int .i64 bx]] w fun e w' => ∃ v', e = .returned v' ∧ w'.ownsRow w.heap.size 3 1 v' (addsL (af, ab, ax) (bf, bb, bx)).length (vals (addsL (af, ab, ax) (bf, bb, bx))) ∧ Below w.heap.size w w' := by
  have HT : Hid (Tab w) := hT
  clear hT
  have b0 : ∀ o1 o2 o3, Below w.heap.size w (((w.alloc o1).alloc o2).alloc o3) := fun o1 o2 o3 => (((Below.refl _ _).alloc (Nat.le_refl _) _).alloc (by simp) _).alloc (by simp; omega) _
  have HA : Hid (isSt (af, ab, ax) = true) := ha
  have HB : Hid (isSt (bf, bb, bx) = true) := hb
  have hi := (isSt_iff _).1 hb
  obtain ⟨h1, h2, h3, h4, _⟩ := hi
  dsimp only at h1 h2 h3 h4
  clear ha hb
  have he1 : ∀ w, (binOp .eql 23 (.agg #[.int .i64 af, .int .i64 ab, .int .i64 ax]) (.agg #[.int .i64 bf, .int .i64 bb, .int .i64 bx])).run Tryd.prog w = .ok (.bool false) w := fun w => by rw [eq_agg, decide_eq_false hne]
  have he2 : ∀ w, (binOp .eql 23 (.agg #[.int .i64 bf, .int .i64 bb, .int .i64 bx]) (.agg #[.int .i64 0, .int .i64 0, .int .i64 0])).run Tryd.prog w = .ok (.bool false) w := fun w => by rw [eq_agg, decide_eq_false hz]
  clear hne hz
  go_enter Tryd.func14, Tryd.ntmps14
  go_wp2_with (first
    | (go_at_call 21; refine (additions_own af ab ax bf bb bx _ (HT.out.next k2) (by omega) (by omega) (by omega) (by omega)).mono ?_; rintro e W3 ⟨v3, rfl, own3, nil3, b3⟩)
    | (go_at_call 7; have k1' := k1; refine (check_agg bf bb bx _ _ HB.out).mono ?_; rintro e W2 ⟨rfl, b2⟩; have k2 : Below w.heap.size w W2 := k1.trans (b2.mono k1.size); have r1 := (b2.block _ (blk_lt q1)).trans q1; have r2 := (b2.block _ (blk_lt q2)).trans q2; have r3 := (b2.block _ (blk_lt q3)).trans q3; have ⟨m0, m1, m2, mf⟩ := cells_of r1; have ⟨n0, n1, n2, nf⟩ := cells_of r2; have ⟨p0, p1, p2, pf⟩ := cells_of r3)
    | (go_at_call 7; refine (check_agg af ab ax _ _ HA.out).mono ?_; rintro e W1 ⟨rfl, b1⟩; have k1 : Below w.heap.size w W1 := (b0 _ _ _).trans (b1.mono (by simp; omega)); have ⟨q1, q2, q3⟩ := blocks3 b1; have ⟨c0, c1, c2, cf⟩ := cells_of q1; have ⟨d0, d1, d2, df⟩ := cells_of q2; have ⟨g0, g1, g2, gf⟩ := cells_of q3))
  go_ret
  exact ⟨_, rfl, own_mono own3 k2.size, k2.trans (b3.mono k2.size)⟩
set_option maxHeartbeats 4000000 in
theorem turn_bits (af ab ax bf bb bx : Int) (w : World) (hT : Tab w) (hne : (af, ab, ax) ≠ (bf, bb, bx)) (ha : isSt (af, ab, ax) = true) (hb : isSt (bf, bb, bx) = true)
    (hz : (bf, bb, bx) ≠ (0, 0, 0)) (hbits : (bits .andNot .i64 ax bx != 0) = true) :
    Calls Tryd.prog 14 #[.agg #[.int .i64 af, .int .i64 ab, .int .i64 ax], .agg #[.int .i64 bf, .int .i64 bb, .int .i64 bx]] w fun e w' => ∃ v', e = .returned v' ∧ w'.ownsRow w.heap.size 3 1 v' (0 :: numsOf (bf, bb, bx)).length (vals (0 :: numsOf (bf, bb, bx))) ∧ Below w.heap.size w w' := by
  have HT : Hid (Tab w) := hT
  clear hT
  have b0 : ∀ o1 o2 o3, Below w.heap.size w (((w.alloc o1).alloc o2).alloc o3) := fun o1 o2 o3 => (((Below.refl _ _).alloc (Nat.le_refl _) _).alloc (by simp) _).alloc (by simp; omega) _
  have HA : Hid (isSt (af, ab, ax) = true) := ha
  have HB : Hid (isSt (bf, bb, bx) = true) := hb
  have hi := (isSt_iff _).1 hb
  obtain ⟨h1, h2, h3, h4, _⟩ := hi
  dsimp only at h1 h2 h3 h4
  clear ha hb
  have he1 : ∀ w, (binOp .eql 23 (.agg #[.int .i64 af, .int .i64 ab, .int .i64 ax]) (.agg #[.int .i64 bf, .int .i64 bb, .int .i64 bx])).run Tryd.prog w = .ok (.bool false) w := fun w => by rw [eq_agg, decide_eq_false hne]
  have he2 : ∀ w, (binOp .eql 23 (.agg #[.int .i64 bf, .int .i64 bb, .int .i64 bx]) (.agg #[.int .i64 0, .int .i64 0, .int .i64 0])).run Tryd.prog w = .ok (.bool false) w := fun w => by rw [eq_agg, decide_eq_false hz]
  have HNE : Hid (numsOf (bf, bb, bx) ≠ []) := fun e => hz (nums_nil _ HB.out e)
  clear hne hz
  obtain ⟨i0, hi0, hz0, hz1, hz2⟩ := info_parts info_int
  have hnl : (numsOf (bf, bb, bx)).length ≤ 100 := nums_len _
  go_enter Tryd.func14, Tryd.ntmps14
  go_wp2_with (first
    | (at_builtin; refine wpList_append_own _ rfl _ _ 24 rfl w.heap.size 3 i0 (.int .i64 0) 1 8 Tryd.underlying24 hi0 hz0 hz1 hz2 rfl (by decide) _ _ _ rfl ownZ ⟨g, 0, none⟩ (numsOf (bf, bb, bx)).length cap (vals (numsOf (bf, bb, bx))) rfl (by simp [vals]) (own_news own3) (ints_oneCell .i64 _) (by unfold maxLen; omega) (by omega) (by have := k3.size; omega) ?_; intro v' w4 hown' hgrow hnil)
    | (go_at_call 12; have k2' : Below w.heap.size w (W2.alloc (.cells #[.int .i64 0] 3)) := k2.alloc k2.size _; refine (numbers_own bf bb bx _ (HT.out.next k2')).mono ?_; rintro e W3 ⟨v3, rfl, own3, _, b3⟩; have k3 : Below w.heap.size w W3 := k2'.trans (b3.mono k2'.size); have ownZ : W3.ownsRow w.heap.size 3 1 (.slice (some ⟨W2.heap.size, 0, none⟩) 1 1) 1 (vals [0]) := own_below ⟨rfl, .inr ⟨W2.heap.size, 1, #[.int .i64 0], rfl, k2.size, heap_alloc_new _ _, by omega, by unfold maxLen; omega, rfl, rfl⟩⟩ b3; obtain ⟨g, cap, rfl⟩ := own_some own3 HNE.out)
    | (go_at_call 7; have k1' := k1; refine (check_agg bf bb bx _ _ HB.out).mono ?_; rintro e W2 ⟨rfl, b2⟩; have k2 : Below w.heap.size w W2 := k1.trans (b2.mono k1.size); have r1 := (b2.block _ (blk_lt q1)).trans q1; have r2 := (b2.block _ (blk_lt q2)).trans q2; have r3 := (b2.block _ (blk_lt q3)).trans q3; have ⟨m0, m1, m2, mf⟩ := cells_of r1; have ⟨n0, n1, n2, nf⟩ := cells_of r2; have ⟨p0, p1, p2, pf⟩ := cells_of r3; have t2 := (Below.heap_alloc W2 (.cells #[.int .i64 0] 3) _ (blk_lt r2)).trans r2; have ⟨y0, y1, y2, yf⟩ := cells_of t2)
    | (go_at_call 7; refine (check_agg af ab ax _ _ HA.out).mono ?_; rintro e W1 ⟨rfl, b1⟩; have k1 : Below w.heap.size w W1 := (b0 _ _ _).trans (b1.mono (by simp; omega)); have ⟨q1, q2, q3⟩ := blocks3 b1; have ⟨c0, c1, c2, cf⟩ := cells_of q1; have ⟨d0, d1, d2, df⟩ := cells_of q2; have ⟨g0, g1, g2, gf⟩ := cells_of q3))
  go_ret
  have hlt := ownZ.lt
  refine ⟨_, rfl, ?_, k3.grown hgrow k3.size (fun k hk => (hlt k hk).1)⟩
  have hE : 1 + (numsOf (bf, bb, bx)).length = (0 :: numsOf (bf, bb, bx)).length := by simp; omega
  rw [hE] at hown'
  exact hown'
set_option maxHeartbeats 4000000 in
theorem turn_none (af ab ax : Int) (w : World) (hT : Tab w) (hne : (af, ab, ax) ≠ (0, 0, 0)) (ha : isSt (af, ab, ax) = true) :
    Calls Tryd.prog 14 #[.agg #[.int .i64 af, .int .i64 ab, .int .i64 ax], .agg #[.int .i64 0, .int .i64 0, .int .i64 0]] w fun e w' => ∃ v', e = .returned v' ∧ w'.ownsRow w.heap.size 3 1 v' ([0]).length (vals ([0])) ∧ Below w.heap.size w w' := by
  have HT : Hid (Tab w) := hT
  clear hT
  have b0 : ∀ o1 o2 o3, Below w.heap.size w (((w.alloc o1).alloc o2).alloc o3) := fun o1 o2 o3 => (((Below.refl _ _).alloc (Nat.le_refl _) _).alloc (by simp) _).alloc (by simp; omega) _
  have HA : Hid (isSt (af, ab, ax) = true) := ha
  have HB : Hid (isSt (0, 0, 0) = true) := by unfold Hid; decide +kernel
  clear ha
  have he1 : ∀ w, (binOp .eql 23 (.agg #[.int .i64 af, .int .i64 ab, .int .i64 ax]) (.agg #[.int .i64 0, .int .i64 0, .int .i64 0])).run Tryd.prog w = .ok (.bool false) w := fun w => by rw [eq_agg, decide_eq_false hne]
  have he2 : ∀ w, (binOp .eql 23 (.agg #[.int .i64 0, .int .i64 0, .int .i64 0]) (.agg #[.int .i64 0, .int .i64 0, .int .i64 0])).run Tryd.prog w = .ok (.bool true) w := fun w => by rw [eq_agg, decide_eq_true rfl]
  clear hne
  obtain ⟨i0, hi0, hz0, hz1, hz2⟩ := info_parts info_int
  go_enter Tryd.func14, Tryd.ntmps14
  go_wp2_with (first
    | (at_builtin; refine wpList_append_own_none rfl _ _ 24 rfl w.heap.size 3 i0 1 Tryd.underlying24 hi0 _ _ _ rfl ownZ rfl ?_)
    | (go_at_call 12; have k2' : Below w.heap.size w (W2.alloc (.cells #[.int .i64 0] 3)) := k2.alloc k2.size _; refine (numbers_own 0 0 0 _ (HT.out.next k2')).mono ?_; rintro e W3 ⟨v3, rfl, _, nil3, b3⟩; obtain rfl := nil3 nums_zero; have k3 : Below w.heap.size w W3 := k2'.trans (b3.mono k2'.size); have ownZ : W3.ownsRow w.heap.size 3 1 (.slice (some ⟨W2.heap.size, 0, none⟩) 1 1) 1 (vals [0]) := own_below ⟨rfl, .inr ⟨W2.heap.size, 1, #[.int .i64 0], rfl, k2.size, heap_alloc_new _ _, by omega, by unfold maxLen; omega, rfl, rfl⟩⟩ b3)
    | (go_at_call 7; have k1' := k1; refine (check_agg 0 0 0 _ _ HB.out).mono ?_; rintro e W2 ⟨rfl, b2⟩; have k2 : Below w.heap.size w W2 := k1.trans (b2.mono k1.size); have r1 := (b2.block _ (blk_lt q1)).trans q1; have r2 := (b2.block _ (blk_lt q2)).trans q2; have r3 := (b2.block _ (blk_lt q3)).trans q3; have ⟨m0, m1, m2, mf⟩ := cells_of r1; have ⟨n0, n1, n2, nf⟩ := cells_of r2; have ⟨p0, p1, p2, pf⟩ := cells_of r3; have t2 := (Below.heap_alloc W2 (.cells #[.int .i64 0] 3) _ (blk_lt r2)).trans r2; have ⟨y0, y1, y2, yf⟩ := cells_of t2)
    | (go_at_call 7; refine (check_agg af ab ax _ _ HA.out).mono ?_; rintro e W1 ⟨rfl, b1⟩; have k1 : Below w.heap.size w W1 := (b0 _ _ _).trans (b1.mono (by simp; omega)); have ⟨q1, q2, q3⟩ := blocks3 b1; have ⟨c0, c1, c2, cf⟩ := cells_of q1; have ⟨d0, d1, d2, df⟩ := cells_of q2; have ⟨g0, g1, g2, gf⟩ := cells_of q3))
  go_ret
  exact ⟨_, rfl, ownZ, k3⟩
set_option maxHeartbeats 1000000 in
theorem turn_same (af ab ax bf bb bx : Int) (w : World) (hne : (af, ab, ax) = (bf, bb, bx)) :
    Calls Tryd.prog 14 #[.agg #[.int .i64 af, .int .i64 ab, .int .i64 ax], .agg #[.int .i64 bf, .int .i64 bb, .int .i64 bx]] w fun e w' => e = .returned (.slice none 0 0) ∧ Below w.heap.size w w' := by
  have b0 : ∀ o1 o2 o3, Below w.heap.size w (((w.alloc o1).alloc o2).alloc o3) := fun o1 o2 o3 => (((Below.refl _ _).alloc (Nat.le_refl _) _).alloc (by simp) _).alloc (by simp; omega) _
  have he1 : ∀ w, (binOp .eql 23 (.agg #[.int .i64 af, .int .i64 ab, .int .i64 ax]) (.agg #[.int .i64 bf, .int .i64 bb, .int .i64 bx])).run Tryd.prog w = .ok (.bool true) w := fun w => by rw [eq_agg, decide_eq_true hne]
  clear hne
  go_enter Tryd.func14, Tryd.ntmps14
  go_wp2_with fail
  go_ret
  exact ⟨rfl, b0 _ _ _⟩
set_option maxHeartbeats 1000000 in
theorem turn_bad1 (af ab ax bf bb bx : Int) (w : World) (hne : (af, ab, ax) ≠ (bf, bb, bx)) (ha : isSt (af, ab, ax) = false) :
    Calls Tryd.prog 14 #[.agg #[.int .i64 af, .int .i64 ab, .int .i64 ax], .agg #[.int .i64 bf, .int .i64 bb, .int .i64 bx]] w fun e w' => e = .returned (.slice none 0 0) ∧ Below w.heap.size w w' := by
  have b0 : ∀ o1 o2 o3, Below w.heap.size w (((w.alloc o1).alloc o2).alloc o3) := fun o1 o2 o3 => (((Below.refl _ _).alloc (Nat.le_refl _) _).alloc (by simp) _).alloc (by simp; omega) _
  have he1 : ∀ w, (binOp .eql 23 (.agg #[.int .i64 af, .int .i64 ab, .int .i64 ax]) (.agg #[.int .i64 bf, .int .i64 bb, .int .i64 bx])).run Tryd.prog w = .ok (.bool false) w := fun w => by rw [eq_agg, decide_eq_false hne]
  have HA : Hid (isSt (af, ab, ax) = false) := ha
  clear hne ha
  go_enter Tryd.func14, Tryd.ntmps14
  go_wp2_with (first
    | (go_at_call 7; refine (check_agg af ab ax _ _ HA.out).mono ?_; rintro e W1 ⟨rfl, b1⟩; have k1 : Below w.heap.size w W1 := (b0 _ _ _).trans (b1.mono (by simp; omega)); have ⟨q1, q2, q3⟩ := blocks3 b1; have ⟨c0, c1, c2, cf⟩ := cells_of q1; have ⟨d0, d1, d2, df⟩ := cells_of q2; have ⟨g0, g1, g2, gf⟩ := cells_of q3))
  go_ret
  exact ⟨rfl, k1⟩
set_option maxHeartbeats 1000000 in
theorem turn_bad2 (af ab ax bf bb bx : Int) (w : World) (hne : (af, ab, ax) ≠ (bf, bb, bx)) (ha : isSt (af, ab, ax) = true) (hb : isSt (bf, bb, bx) = false) :
    Calls Tryd.prog 14 #[.agg #[.int .i64 af, .int .i64 ab, .int .i64 ax], .agg #[.int .i64 bf, .int .i64 bb, .int .i64 bx]] w fun e w' => e = .returned (.slice none 0 0) ∧ Below w.heap.size w w' := by
  have b0 : ∀ o1 o2 o3, Below w.heap.size w (((w.alloc o1).alloc o2).alloc o3) := fun o1 o2 o3 => (((Below.refl _ _).alloc (Nat.le_refl _) _).alloc (by simp) _).alloc (by simp; omega) _
  have he1 : ∀ w, (binOp .eql 23 (.agg #[.int .i64 af, .int .i64 ab, .int .i64 ax]) (.agg #[.int .i64 bf, .int .i64 bb, .int .i64 bx])).run Tryd.prog w = .ok (.bool false) w := fun w => by rw [eq_agg, decide_eq_false hne]
  have HA : Hid (isSt (af, ab, ax) = true) := ha
  have HB : Hid (isSt (bf, bb, bx) = false) := hb
  clear hne ha hb
  go_enter Tryd.func14, Tryd.ntmps14
  go_wp2_with (first
    | (go_at_call 7; have k1' := k1; refine (check_agg bf bb bx _ _ HB.out).mono ?_; rintro e W2 ⟨rfl, b2⟩)
    | (go_at_call 7; refine (check_agg af ab ax _ _ HA.out).mono ?_; rintro e W1 ⟨rfl, b1⟩; have k1 : Below w.heap.size w W1 := (b0 _ _ _).trans (b1.mono (by simp; omega)); have ⟨q1, q2, q3⟩ := blocks3 b1; have ⟨c0, c1, c2, cf⟩ := cells_of q1; have ⟨d0, d1, d2, df⟩ := cells_of q2; have ⟨g0, g1, g2, gf⟩ := cells_of q3))
  go_ret
  exact ⟨rfl, k1.trans (b2.mono k1.size)⟩
theorem turn_own (af ab ax bf bb bx : Int) (w : World) (hT : Tab w) :
    Calls Tryd.prog 14 #[.agg #[.int .i64 af, .int .i64 ab, .int .i64 ax], .agg #[.int .i64 bf, .int .i64 bb, .int .i64 bx]] w fun e w' => ∃ v', e = .returned v' ∧ w'.ownsRow w.heap.size 3 1 v' (turnOf (af, ab, ax) (bf, bb, bx)).length (vals (turnOf (af, ab, ax) (bf, bb, bx))) ∧ Below w.heap.size w w' := by
  have nil : ∀ e w', e = Ending.returned (.slice none 0 0) ∧ Below w.heap.size w w' → turnOf (af, ab, ax) (bf, bb, bx) = [] → ∃ v', e = .returned v' ∧ w'.ownsRow w.heap.size 3 1 v' (turnOf (af, ab, ax) (bf, bb, bx)).length (vals (turnOf (af, ab, ax) (bf, bb, bx))) ∧ Below w.heap.size w w' := fun e w' ⟨he, hb⟩ h0 => ⟨_, he, by rw [h0]; exact ⟨rfl, .inl ⟨rfl, rfl⟩⟩, hb⟩
  by_cases hne : (af, ab, ax) = (bf, bb, bx)
  · exact (turn_same af ab ax bf bb bx w hne).mono fun e w' h => nil e w' h (by unfold turnOf; rw [if_pos (Or.inl hne)])
  · cases ha : isSt (af, ab, ax) with
    | false => exact (turn_bad1 af ab ax bf bb bx w hne ha).mono fun e w' h => nil e w' h (by unfold turnOf; rw [if_pos (Or.inr (Or.inl ha))])
    | true =>
      cases hb : isSt (bf, bb, bx) with
      | false => exact (turn_bad2 af ab ax bf bb bx w hne ha hb).mono fun e w' h => nil e w' h (by unfold turnOf; rw [if_pos (Or.inr (Or.inr hb))])
      | true =>
        have h1 : ¬ ((af, ab, ax) = (bf, bb, bx) ∨ isSt (af, ab, ax) = false ∨ isSt (bf, bb, bx) = false) := by
          rintro (h | h | h)
          · exact hne h
          · rw [ha] at h; cases h
          · rw [hb] at h; cases h
        unfold turnOf
        rw [if_neg h1]
        by_cases hz : (bf, bb, bx) = (0, 0, 0)
        · rw [if_pos (Or.inl hz)]
          simp only [Prod.mk.injEq] at hz
          obtain ⟨rfl, rfl, rfl⟩ := hz
          rw [nums_zero]
          exact turn_none af ab ax w hT hne ha
        · cases hbt : (bits .andNot .i64 ax bx != 0) with
          | true =>
            rw [if_pos (Or.inr (by simpa using hbt))]
            exact turn_bits af ab ax bf bb bx w hT hne ha hb hz hbt
          | false =>
            rw [if_neg (by rintro (h | h); exact hz h; exact h (by simpa using hbt))]
            exact turn_adds af ab ax bf bb bx w hT hne ha hb hz hbt
end Sty
end Go.Proofs.YthnphjdpifpehaaDoor
