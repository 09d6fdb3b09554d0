/- The law CopyTake. (Written by gen_cpytakel.py.) -/
import Derived.Test.YtlodmffiengnaaaDoorCpyTakeM
import Derived.Test.YtlodmffiengnaaaDoorCpyBad
import Derived.Test.YtlodmffiengnaaaDoorCpyEndOf
import Derived.Test.YtlodmffiengnaaaDoorCpyCopied
import Derived.Test.YtlodmffiengnaaaDoorCpyOwn
import Derived.Test.YtlodmffiengnaaaDoorTextWidthOf
namespace Go.Proofs.YtlodmffiengnaaaDoor
open Go.ChangeShapes Go.WideShapes Go.ChangeAt Go.RowKit Go.Maps Go.Sort
namespace Cpy
open Txt (Tab bs wd spotsL wideL)
/-- The two ends in memory, and the parts so far. -/
structure TInv (w : World) (p q B0 : Nat) (ax ay bx cy : Int) (u : Value) (ps : List ByteArray) (V : World) : Prop where
  kb : Below w.heap.size w V
  P : V.heap[p]? = some (.cells #[.int .i64 ax, .int .i64 ay] 24 (0, 0))
  Q : V.heap[q]? = some (.cells #[.int .i64 bx, .int .i64 cy] 24 (0, 0))
  own : Own V B0 u ps
  hp : p < B0
  hq : q < B0
  hw : w.heap.size ≤ B0
  hV : B0 ≤ V.heap.size
theorem TInv.below {w : World} {p q B0 : Nat} {ax ay bx cy : Int} {u : Value} {ps : List ByteArray} {V V' : World} (h : TInv w p q B0 ax ay bx cy u ps V) (hb : Below V.heap.size V V') : TInv w p q B0 ax ay bx cy u ps V' :=
  ⟨h.kb.trans (hb.mono h.kb.size), kept h.P hb, kept h.Q hb, h.own.below hb, h.hp, h.hq, h.hw, Nat.le_trans h.hV hb.size⟩
/-- The runes that are taken of the first i. -/
def tk (S : List (Int × Int)) (f l : Bool) (ax bx : Int) (i : Nat) : List Int := ((S.take i).filter (inM f l ax bx)).map (·.1)
theorem tk_succ (S : List (Int × Int)) (f l : Bool) (ax bx : Int) (i : Nat) (h : i < S.length) : tk S f l ax bx (i + 1) = tk S f l ax bx i ++ (if inM f l ax bx S[i] then [S[i].1] else []) := by
  unfold tk
  rw [List.take_succ_eq_append_getElem h, List.filter_append, List.map_append]
  congr 1
  by_cases hi : inM f l ax bx S[i] = true
  · rw [List.filter_cons_of_pos hi, if_pos hi]; rfl
  · rw [List.filter_cons_of_neg hi, if_neg hi]; rfl
theorem tk_len (S : List (Int × Int)) (f l : Bool) (ax bx : Int) (i : Nat) : (tk S f l ax bx i).length ≤ S.length := by
  unfold tk
  rw [List.length_map]
  exact Nat.le_trans (List.length_filter_le _ _) (by rw [List.length_take]; omega)
theorem E_le : ∀ l : List Int, (E l).length ≤ 4 * l.length
  | [] => by simp [E]
  | r :: t => by
    have h1 := E_le t
    have h2 := (Txt.encodeRune_length r).2
    rw [E_cons, List.length_append, List.length_cons]
    omega
theorem wide_le : ∀ l : List (Int × Nat), wideL l ≤ 2 * (l.length : Int)
  | [] => by simp [wideL]
  | y :: t => by
    have h := wide_le t
    have hr := Txt.wd_range y.1
    unfold wideL
    rw [List.length_cons]
    omega
theorem sp_col (s : ByteArray) (hs : s.size ≤ 4000) (i : Nat) (h : i < (sp s).length) : 0 ≤ (sp s)[i].2 ∧ (sp s)[i].2 ≤ 8000 := by
  have hm := List.getElem_mem h
  refine ⟨sp_pos s _ hm, ?_⟩
  have h1 := spots_wide (Txt.runes s) 0 _ hm
  have h2 := wide_le (Txt.runes s)
  have h3 : (Txt.runes s).length ≤ s.size := rs_len s _ _
  omega
theorem TInv.step {w : World} {p q B0 : Nat} {ax ay bx cy : Int} {u u' : Value} {ps : List ByteArray} {pt : ByteArray} {V V' : World} {ob : Obj} (h : TInv w p q B0 ax ay bx cy u ps V) (hg : (V.alloc ob).grownBy V' u.ownBlock) (ho : V'.ownsRow B0 9 1 u' (ps.length + 1) (ps.map Value.string ++ [Value.string pt])) : TInv w p q B0 ax ay bx cy u' (ps ++ [pt]) V' := by
  have hlt := World.ownsRow.lt h.own
  have kA : Below V.heap.size V (V.alloc ob) := (Below.refl _ _).alloc (Nat.le_refl _) _
  have hs := h.kb.size
  have h1 := h.hp
  have h2 := h.hq
  have key : ∀ i o, i < B0 → V.heap[i]? = some o → V'.heap[i]? = some o := fun i o hi hh =>
    (hg.block i (Nat.lt_of_lt_of_le (Array.getElem?_eq_some_iff.1 hh).1 kA.size) (fun e => by have := (hlt _ e.symm).1; omega)).trans (kept hh kA)
  have hsz : V.heap.size ≤ V'.heap.size := Nat.le_trans kA.size (by
    have := hg.size
    omega)
  exact ⟨(h.kb.trans (kA.mono hs)).grown hg (Nat.le_trans hs kA.size) (fun k hk => by have := (hlt k hk).1; have := h.hw; omega), key _ _ h1 h.P, key _ _ h2 h.Q, by unfold Own; simpa using ho, h1, h2, h.hw, Nat.le_trans h.hV hsz⟩
theorem part_tk (L : List ByteArray) (ax : Int) (ay : Nat) (bx : Int) (cy y : Nat) (hax : 0 ≤ ax) (hx : ay = cy → ax ≤ bx) : runesBytes (partM L ax ay bx cy y) = bs (E (tk (sp (ln L y)) (y == ay) (y == cy) ax bx (sp (ln L y)).length)) := by
  rw [bytes_bs]
  unfold partM tk
  rw [List.take_length, taken (ln L y) (y == ay) (y == cy) ax bx hax (fun h1 h2 => hx (by
    have e1 := beq_iff_eq.1 h1
    have e2 := beq_iff_eq.1 h2
    omega))]
theorem i64_small {n : Int} (h0 : -9 ≤ n) (h1 : n ≤ 100000) : IntKind.i64.wrap n = n := IntWalk.i64_in _ ⟨by omega, by omega⟩
theorem w64_small {n : Int} (h0 : -9 ≤ n) (h1 : n ≤ 100000) : wrap64 n = n := by unfold wrap64; omega
theorem rune_conv (r : Int) (W : World) : (convert 21 9 (.int .i32 r)).run Tryd.prog W = .ok (.string (Utf8.encode r)) W := by
  simp [convert, run_underlying Tryd.underlying21, run_underlying Tryd.underlying9, Conv.intToString]
set_option maxHeartbeats 16000000 in
set_option maxRecDepth 100000 in
theorem copyTake_walk (L : List ByteArray) (v : Value) (k : Cp) (on : Bool) (w : World) (h : LsAt w v L) (hT : Tab w) (hM : MaxAt w) :
    Calls Tryd.prog 4 #[v, .agg k.cells, .bool on] w fun e w' => e = .returned (.bool true) ∧ Below w.heap.size w w' := by
  have kb : Below w.heap.size w (w.alloc (.cells k.cells 26)) := (Below.refl _ _).alloc (Nat.le_refl _) _
  have Y0 : BoxAt (w.alloc (.cells k.cells 26)) w.heap.size k := heap_alloc_new w (.cells k.cells 26)
  have HLS : Hid (∀ V, Below w.heap.size w V → LsAt V v L) := fun V hV => h.below hV
  have HTB : Hid (∀ V, Below w.heap.size w V → Tab V) := fun V hV => hT.below hV hT.pos
  have HMB : Hid (∀ V, Below w.heap.size w V → MaxAt V) := fun V hV => hM.below hV
  have HC := fun V (hV : Below w.heap.size w V) => copied_any V (HTB.out V hV) (HMB.out V hV)
  have H1 := fun V (hV : Below w.heap.size w V) => select_any L v k on V (HLS.out V hV)
  have H2 := fun V (hV : Below w.heap.size w V) => take_any L v k V (HLS.out V hV) (HTB.out V hV)
  have H3 := fun V (hV : Below w.heap.size w V) => bad_any L v k V (HLS.out V hV)
  have HCK : Hid (chk L k = 0 → 1 ≤ L.length ∧ L.length ≤ 110 ∧ (∀ s ∈ L, s.size ≤ 4000) ∧ (0 ≤ k.y ∧ k.y < L.length ∧ 0 ≤ k.x ∧ k.x ≤ 120) ∧ (0 ≤ k.fy ∧ k.fy < L.length ∧ 0 ≤ k.fx ∧ k.fx ≤ 120)) := chk_zero
  have HTE : Hid (takeE L k = if chk L k = 0 then (if k.on then (if 4000 < (takeM L k).size then 10 else 0) else 8) else chk L k) := rfl
  have HTT : Hid (takeT L k = if takeE L k = 0 then takeM L k else ⟨#[]⟩) := rfl
  obtain ⟨a, c, rfl, _⟩ := h
  clear hT hM
  obtain ⟨x, y, fx, fy, kon⟩ := k
  by_cases hR : chk L ⟨x, y, fx, fy, kon⟩ = 0
  rotate_left
  · have hte : takeE L ⟨x, y, fx, fy, kon⟩ = chk L ⟨x, y, fx, fy, kon⟩ := by rw [HTE.out, if_neg hR]
    have htt : takeT L ⟨x, y, fx, fy, kon⟩ = ⟨#[]⟩ := by rw [HTT.out, hte, if_neg hR]
    rw [hte, htt] at H2
    have hk : chgK (chk L ⟨x, y, fx, fy, kon⟩) 0 (selK ⟨x, y, fx, fy, kon⟩ on) = zCp := by unfold chgK; rw [if_neg (fun h => hR h.1)]
    have he : chgE (chk L ⟨x, y, fx, fy, kon⟩) 0 = chk L ⟨x, y, fx, fy, kon⟩ := by unfold chgE; rw [if_neg hR]
    rw [hk, he] at H1
    generalize chk L ⟨x, y, fx, fy, kon⟩ = R at *
    simp only [Cp.cells, zCp] at *
    have jR : (R == 0) = false := by rw [beq_eq_false_iff_ne]; exact hR
    have jn : (R != 0) = true := by rw [bne, jR]; rfl
    clear hk he hte htt HTE HTT HCK
    go_enter Tryd.func4, Tryd.ntmps4
    go_wp2_with fail
    refine (H1 _ kb).mono ?_
    rintro e W1 ⟨rfl, b1⟩
    have k1 := kb.trans (b1.mono kb.size)
    have kA : Below W1.heap.size W1 (W1.alloc (.cells #[.int .i64 0, .int .i64 0, .int .i64 0, .int .i64 0, .bool false] 26)) := (Below.refl _ _).alloc (Nat.le_refl _) _
    have X1 : BoxAt (W1.alloc (.cells #[.int .i64 0, .int .i64 0, .int .i64 0, .int .i64 0, .bool false] 26)) W1.heap.size ⟨0, 0, 0, 0, false⟩ := heap_alloc_new W1 (.cells #[.int .i64 0, .int .i64 0, .int .i64 0, .int .i64 0, .bool false] 26)
    have k2 := k1.trans (kA.mono k1.size)
    have Y2 := (Y0.below b1).below kA
    obtain ⟨⟨c0, c1, c2, c3, c4⟩, _⟩ := Y2.cells
    simp only [] at c0 c1 c2 c3 c4
    clear H1 kA b1 Y0
    go_wp2_with fail
    refine (H2 _ k2).mono ?_
    rintro e W2 ⟨rfl, b2⟩
    have k3 := k2.trans (b2.mono k2.size)
    have Y3 := Y2.below b2
    have X3 := X1.below b2
    obtain ⟨⟨c0, c1, c2, c3, c4⟩, _⟩ := Y3.cells
    simp only [] at c0 c1 c2 c3 c4
    clear H2 b2 Y2 X1
    go_wp2_with fail
    refine (H3 _ k3).mono ?_
    rintro e W3 ⟨rfl, b3⟩
    have k4 := k3.trans (b3.mono k3.size)
    have Y4 := Y3.below b3
    have X4 := X3.below b3
    clear H3 b3 Y3 X3
    go_wp2_with fail
    refine (HC _ k4).mono ?_
    rintro e W4 ⟨rfl, b4⟩
    have k5 := k4.trans (b4.mono k4.size)
    have Y5 := Y4.below b4
    have X5 := X4.below b4
    clear b4 Y4 X4 c0 c1 c2 c3 c4
    obtain ⟨⟨c0, c1, c2, c3, c4⟩, hfY⟩ := Y5.cells
    obtain ⟨⟨d0, d1, d2, d3, d4⟩, hfX⟩ := X5.cells
    simp only [] at c0 c1 c2 c3 c4 d0 d1 d2 d3 d4
    go_wp2_with fail
    refine (HC _ k5).mono ?_
    rintro e W5 ⟨rfl, b5⟩
    have k6 := k5.trans (b5.mono k5.size)
    obtain ⟨⟨d0, d1, d2, d3, d4⟩, _⟩ := (X5.below b5).cells
    simp only [] at d0 d1 d2 d3 d4
    clear X5 Y5 b5
    go_wp2_with fail
    go_ret
    exact ⟨rfl, k6⟩
  obtain ⟨n1, n2, n3, ⟨n4, n5, n6, n7⟩, ⟨n8, n9, n10, n11⟩⟩ := HCK.out hR
  simp only [] at n4 n5 n6 n7 n8 n9 n10 n11
  rw [hR] at H1 H3
  have he : chgE 0 0 = 0 := rfl
  have hk : chgK 0 0 (selK ⟨x, y, fx, fy, kon⟩ on) = selK ⟨x, y, fx, fy, kon⟩ on := by
    unfold chgK selK
    rw [if_pos ⟨rfl, rfl⟩]
    cases on
    · simp only [Bool.false_eq_true, if_false]
      rw [show min x 120 = x by omega]
    · simp only [if_true]
      rw [show min x 120 = x by omega]
  rw [hk, he] at H1
  clear hk he
  have hB : 1 ≤ L.length := n1
  obtain ⟨y, rfl⟩ := Int.eq_ofNat_of_zero_le n4
  obtain ⟨fy, rfl⟩ := Int.eq_ofNat_of_zero_le n8
  have hte : takeE L ⟨x, y, fx, fy, kon⟩ = if kon then (if 4000 < (takeM L ⟨x, y, fx, fy, kon⟩).size then 10 else 0) else 8 := by rw [HTE.out, if_pos hR]
  cases kon
  · simp only [Bool.false_eq_true, if_false] at hte
    have htt : takeT L ⟨x, y, fx, fy, false⟩ = ⟨#[]⟩ := by rw [HTT.out, hte, if_neg (by decide)]
    rw [hte, htt] at H2
    cases on
    · simp only [selK, Bool.false_eq_true, if_false, Cp.cells] at *
      clear hte htt HTE HTT HCK hR
      go_enter Tryd.func4, Tryd.ntmps4
      go_wp2_with fail
      refine (H1 _ kb).mono ?_
      rintro e W1 ⟨rfl, b1⟩
      have k1 := kb.trans (b1.mono kb.size)
      have kA : Below W1.heap.size W1 (W1.alloc (.cells #[.int .i64 x, .int .i64 y, .int .i64 0, .int .i64 0, .bool false] 26)) := (Below.refl _ _).alloc (Nat.le_refl _) _
      have X1 : BoxAt (W1.alloc (.cells #[.int .i64 x, .int .i64 y, .int .i64 0, .int .i64 0, .bool false] 26)) W1.heap.size ⟨x, y, 0, 0, false⟩ := heap_alloc_new W1 (.cells #[.int .i64 x, .int .i64 y, .int .i64 0, .int .i64 0, .bool false] 26)
      have k2 := k1.trans (kA.mono k1.size)
      have Y2 := (Y0.below b1).below kA
      obtain ⟨⟨c0, c1, c2, c3, c4⟩, _⟩ := Y2.cells
      simp only [] at c0 c1 c2 c3 c4
      clear H1 kA b1 Y0
      go_wp2_with fail
      refine (H2 _ k2).mono ?_
      rintro e W2 ⟨rfl, b2⟩
      have k3 := k2.trans (b2.mono k2.size)
      have Y3 := Y2.below b2
      have X3 := X1.below b2
      obtain ⟨⟨c0, c1, c2, c3, c4⟩, _⟩ := Y3.cells
      simp only [] at c0 c1 c2 c3 c4
      clear H2 b2 Y2 X1
      go_wp2_with fail
      refine (H3 _ k3).mono ?_
      rintro e W3 ⟨rfl, b3⟩
      have k4 := k3.trans (b3.mono k3.size)
      have Y4 := Y3.below b3
      have X4 := X3.below b3
      clear H3 b3 Y3 X3
      go_wp2_with fail
      refine (HC _ k4).mono ?_
      rintro e W4 ⟨rfl, b4⟩
      have k5 := k4.trans (b4.mono k4.size)
      have Y5 := Y4.below b4
      have X5 := X4.below b4
      clear b4 Y4 X4 c0 c1 c2 c3 c4
      obtain ⟨⟨c0, c1, c2, c3, c4⟩, hfY⟩ := Y5.cells
      obtain ⟨⟨d0, d1, d2, d3, d4⟩, hfX⟩ := X5.cells
      simp only [] at c0 c1 c2 c3 c4 d0 d1 d2 d3 d4
      have kW : ∀ o, Below W4.heap.size W4 (W4.alloc o) := fun o => (Below.refl _ _).alloc (Nat.le_refl _) _
      have k6 := fun o => k5.trans ((kW o).mono k5.size)
      have c0' := fun o => CK.below (kW o) _ _ _ c0
      have c1' := fun o => CK.below (kW o) _ _ _ c1
      have c2' := fun o => CK.below (kW o) _ _ _ c2
      have c3' := fun o => CK.below (kW o) _ _ _ c3
      have c4' := fun o => CK.below (kW o) _ _ _ c4
      have d0' := fun o => CK.below (kW o) _ _ _ d0
      have d1' := fun o => CK.below (kW o) _ _ _ d1
      have d2' := fun o => CK.below (kW o) _ _ _ d2
      have d3' := fun o => CK.below (kW o) _ _ _ d3
      have d4' := fun o => CK.below (kW o) _ _ _ d4
      go_wp2_with fail
      go_ret
      exact ⟨rfl, k6 _⟩
    · simp only [selK, if_true, Cp.cells] at *
      clear hte htt HTE HTT HCK hR
      go_enter Tryd.func4, Tryd.ntmps4
      go_wp2_with fail
      refine (H1 _ kb).mono ?_
      rintro e W1 ⟨rfl, b1⟩
      have k1 := kb.trans (b1.mono kb.size)
      have kA : Below W1.heap.size W1 (W1.alloc (.cells #[.int .i64 x, .int .i64 y, .int .i64 x, .int .i64 y, .bool true] 26)) := (Below.refl _ _).alloc (Nat.le_refl _) _
      have X1 : BoxAt (W1.alloc (.cells #[.int .i64 x, .int .i64 y, .int .i64 x, .int .i64 y, .bool true] 26)) W1.heap.size ⟨x, y, x, y, true⟩ := heap_alloc_new W1 (.cells #[.int .i64 x, .int .i64 y, .int .i64 x, .int .i64 y, .bool true] 26)
      have k2 := k1.trans (kA.mono k1.size)
      have Y2 := (Y0.below b1).below kA
      obtain ⟨⟨c0, c1, c2, c3, c4⟩, _⟩ := Y2.cells
      simp only [] at c0 c1 c2 c3 c4
      clear H1 kA b1 Y0
      go_wp2_with fail
      refine (H2 _ k2).mono ?_
      rintro e W2 ⟨rfl, b2⟩
      have k3 := k2.trans (b2.mono k2.size)
      have Y3 := Y2.below b2
      have X3 := X1.below b2
      obtain ⟨⟨c0, c1, c2, c3, c4⟩, _⟩ := Y3.cells
      simp only [] at c0 c1 c2 c3 c4
      clear H2 b2 Y2 X1
      go_wp2_with fail
      refine (H3 _ k3).mono ?_
      rintro e W3 ⟨rfl, b3⟩
      have k4 := k3.trans (b3.mono k3.size)
      have Y4 := Y3.below b3
      have X4 := X3.below b3
      clear H3 b3 Y3 X3
      go_wp2_with fail
      refine (HC _ k4).mono ?_
      rintro e W4 ⟨rfl, b4⟩
      have k5 := k4.trans (b4.mono k4.size)
      have Y5 := Y4.below b4
      have X5 := X4.below b4
      clear b4 Y4 X4 c0 c1 c2 c3 c4
      obtain ⟨⟨c0, c1, c2, c3, c4⟩, hfY⟩ := Y5.cells
      obtain ⟨⟨d0, d1, d2, d3, d4⟩, hfX⟩ := X5.cells
      simp only [] at c0 c1 c2 c3 c4 d0 d1 d2 d3 d4
      have kW : ∀ o, Below W4.heap.size W4 (W4.alloc o) := fun o => (Below.refl _ _).alloc (Nat.le_refl _) _
      have k6 := fun o => k5.trans ((kW o).mono k5.size)
      have c0' := fun o => CK.below (kW o) _ _ _ c0
      have c1' := fun o => CK.below (kW o) _ _ _ c1
      have c2' := fun o => CK.below (kW o) _ _ _ c2
      have c3' := fun o => CK.below (kW o) _ _ _ c3
      have c4' := fun o => CK.below (kW o) _ _ _ c4
      have d0' := fun o => CK.below (kW o) _ _ _ d0
      have d1' := fun o => CK.below (kW o) _ _ _ d1
      have d2' := fun o => CK.below (kW o) _ _ _ d2
      have d3' := fun o => CK.below (kW o) _ _ _ d3
      have d4' := fun o => CK.below (kW o) _ _ _ d4
      go_wp2_with fail
      go_ret
      exact ⟨rfl, k6 _⟩
  · simp only [if_true] at hte
    obtain ⟨T0, hT0⟩ : ∃ T0, takeT L ⟨x, y, fx, fy, true⟩ = T0 := ⟨_, rfl⟩
    obtain ⟨E0, hE0⟩ : ∃ E0, takeE L ⟨x, y, fx, fy, true⟩ = E0 := ⟨_, rfl⟩
    obtain ⟨M, hM⟩ : ∃ M, takeM L ⟨x, y, fx, fy, true⟩ = M := ⟨_, rfl⟩
    rw [hT0, hE0] at H2
    rw [hE0, hM] at hte
    have HTE2 : Hid (E0 = if 4000 < M.size then 10 else 0) := hte
    have HT2 : Hid (T0 = if E0 = 0 then M else ⟨#[]⟩) := by
      show T0 = _
      rw [← hT0, HTT.out, hE0, hM]
    have HM2 : Hid (M = if ahead x y fx fy then betM L x y fx fy else betM L fx fy x y) := by
      show M = _
      rw [← hM]
      unfold takeM
      simp only [Int.toNat_natCast]
    clear hT0 hE0 hM hte HTE HTT HCK
    cases on
    · simp only [selK, Bool.false_eq_true, if_false, Cp.cells] at *
      clear hR
      go_enter Tryd.func4, Tryd.ntmps4
      go_wp2_with fail
      refine (H1 _ kb).mono ?_
      rintro e W1 ⟨rfl, b1⟩
      have k1 := kb.trans (b1.mono kb.size)
      have kA : Below W1.heap.size W1 (W1.alloc (.cells #[.int .i64 x, .int .i64 y, .int .i64 0, .int .i64 0, .bool false] 26)) := (Below.refl _ _).alloc (Nat.le_refl _) _
      have X1 : BoxAt (W1.alloc (.cells #[.int .i64 x, .int .i64 y, .int .i64 0, .int .i64 0, .bool false] 26)) W1.heap.size ⟨x, y, 0, 0, false⟩ := heap_alloc_new W1 (.cells #[.int .i64 x, .int .i64 y, .int .i64 0, .int .i64 0, .bool false] 26)
      have k2 := k1.trans (kA.mono k1.size)
      have Y2 := (Y0.below b1).below kA
      obtain ⟨⟨c0, c1, c2, c3, c4⟩, _⟩ := Y2.cells
      simp only [] at c0 c1 c2 c3 c4
      clear H1 kA b1 Y0
      go_wp2_with fail
      refine (H2 _ k2).mono ?_
      rintro e W2 ⟨rfl, b2⟩
      have k3 := k2.trans (b2.mono k2.size)
      have Y3 := Y2.below b2
      have X3 := X1.below b2
      obtain ⟨⟨c0, c1, c2, c3, c4⟩, _⟩ := Y3.cells
      simp only [] at c0 c1 c2 c3 c4
      clear H2 b2 Y2 X1
      go_wp2_with fail
      refine (H3 _ k3).mono ?_
      rintro e W3 ⟨rfl, b3⟩
      have k4 := k3.trans (b3.mono k3.size)
      have Y4 := Y3.below b3
      have X4 := X3.below b3
      clear H3 b3 Y3 X3
      go_wp2_with fail
      refine (HC _ k4).mono ?_
      rintro e W4 ⟨rfl, b4⟩
      have k5 := k4.trans (b4.mono k4.size)
      have Y5 := Y4.below b4
      have X5 := X4.below b4
      clear b4 Y4 X4 c0 c1 c2 c3 c4
      obtain ⟨⟨c0, c1, c2, c3, c4⟩, hfY⟩ := Y5.cells
      obtain ⟨⟨d0, d1, d2, d3, d4⟩, hfX⟩ := X5.cells
      simp only [] at c0 c1 c2 c3 c4 d0 d1 d2 d3 d4
      have kW : ∀ o, Below W4.heap.size W4 (W4.alloc o) := fun o => (Below.refl _ _).alloc (Nat.le_refl _) _
      have k6 := fun o => k5.trans ((kW o).mono k5.size)
      have c0' := fun o => CK.below (kW o) _ _ _ c0
      have c1' := fun o => CK.below (kW o) _ _ _ c1
      have c2' := fun o => CK.below (kW o) _ _ _ c2
      have c3' := fun o => CK.below (kW o) _ _ _ c3
      have c4' := fun o => CK.below (kW o) _ _ _ c4
      have d0' := fun o => CK.below (kW o) _ _ _ d0
      have d1' := fun o => CK.below (kW o) _ _ _ d1
      have d2' := fun o => CK.below (kW o) _ _ _ d2
      have d3' := fun o => CK.below (kW o) _ _ _ d3
      have d4' := fun o => CK.below (kW o) _ _ _ d4
      go_upto_region 13 with fail
      go_cut [13, 14] from 87 to 90 (fun u13 u14 wx => ∃ p q : Nat, u13 = .pointer (some ⟨p, 0, none⟩) ∧ u14 = .pointer (some ⟨q, 0, none⟩) ∧ Below w.heap.size w wx ∧ wx.heap[p]? = some (.cells #[.int .i64 fx, .int .i64 fy] 24 (0, 0)) ∧ wx.heap[q]? = some (.cells #[.int .i64 x, .int .i64 y] 24 (0, 0)) ∧ p ≠ q ∧ w.heap.size ≤ p ∧ w.heap.size ≤ q)
      case first =>
        have k7 := k6 (.cells #[.int .i64 x, .int .i64 y, .int .i64 0, .int .i64 0, .bool false] 26)
        have e0 := c0' (.cells #[.int .i64 x, .int .i64 y, .int .i64 0, .int .i64 0, .bool false] 26)
        have e1 := c1' (.cells #[.int .i64 x, .int .i64 y, .int .i64 0, .int .i64 0, .bool false] 26)
        have e2 := c2' (.cells #[.int .i64 x, .int .i64 y, .int .i64 0, .int .i64 0, .bool false] 26)
        have e3 := c3' (.cells #[.int .i64 x, .int .i64 y, .int .i64 0, .int .i64 0, .bool false] 26)
        clear c0 c1 c2 c3 c4 d0 d1 d2 d3 d4 c0' c1' c2' c3' c4' d0' d1' d2' d3' d4' kW k6 X5 Y5 hfX hfY
        generalize W4.alloc (.cells #[.int .i64 x, .int .i64 y, .int .i64 0, .int .i64 0, .bool false] 26) = W5 at *
        have kA : ∀ o, Below W5.heap.size W5 (W5.alloc o) := fun o => (Below.refl _ _).alloc (Nat.le_refl _) _
        have kB : ∀ o o', Below W5.heap.size W5 ((W5.alloc o).alloc o') := fun o o' => (kA o).alloc (by rw [World.size_alloc]; omega) _
        have f0 := fun o => CK.below (kA o) _ _ _ e0
        have f1 := fun o => CK.below (kA o) _ _ _ e1
        have f2 := fun o => CK.below (kA o) _ _ _ e2
        have f3 := fun o => CK.below (kA o) _ _ _ e3
        have g0 := fun o o' => CK.below (kB o o') _ _ _ e0
        have g1 := fun o o' => CK.below (kB o o') _ _ _ e1
        have g2 := fun o o' => CK.below (kB o o') _ _ _ e2
        have g3 := fun o o' => CK.below (kB o o') _ _ _ e3
        have HKB : Hid (∀ o o', Below w.heap.size w ((W5.alloc o).alloc o')) := fun o o' => k7.trans ((kB o o').mono k7.size)
        have HS7 : Hid (w.heap.size ≤ W5.heap.size) := k7.size
        clear kA kB
        go_region
        · go_wp2_with fail
          go_meet
          have hB := heap_alloc_new (W5.alloc (.cells #[.int .i64 fx, .int .i64 fy] 24)) (.cells #[.int .i64 x, .int .i64 y] 24)
          rw [World.size_alloc] at hB
          have hA := (heap_alloc_old (W5.alloc (.cells #[.int .i64 fx, .int .i64 fy] 24)) (.cells #[.int .i64 x, .int .i64 y] 24) (r := W5.heap.size) (by rw [World.size_alloc]; omega)).trans (heap_alloc_new W5 (.cells #[.int .i64 fx, .int .i64 fy] 24))
          exact ⟨W5.heap.size, W5.heap.size + 1, rfl, rfl, (HKB.out _ _).drew, hA, hB, by omega, HS7.out, Nat.le_succ_of_le HS7.out⟩
        · go_wp2_with fail
          go_meet
          have hB := heap_alloc_new (W5.alloc (.cells #[.int .i64 x, .int .i64 y] 24)) (.cells #[.int .i64 fx, .int .i64 fy] 24)
          rw [World.size_alloc] at hB
          have hA := (heap_alloc_old (W5.alloc (.cells #[.int .i64 x, .int .i64 y] 24)) (.cells #[.int .i64 fx, .int .i64 fy] 24) (r := W5.heap.size) (by rw [World.size_alloc]; omega)).trans (heap_alloc_new W5 (.cells #[.int .i64 x, .int .i64 y] 24))
          exact ⟨W5.heap.size + 1, W5.heap.size, rfl, rfl, (HKB.out _ _).drew, hB, hA, by omega, Nat.le_succ_of_le HS7.out, HS7.out⟩
      case rest =>
        obtain ⟨p, q, rfl, rfl, kV, hP, hQ, hpq, hp9, hq9⟩ := hcut
        clear c0 c1 c2 c3 c4 d0 d1 d2 d3 d4 c0' c1' c2' c3' c4' d0' d1' d2' d3' d4' kW k6 k5 X5 Y5 hfX hfY
        obtain ⟨p0, p1⟩ := cells2 hP
        obtain ⟨q0, q1⟩ := cells2 hQ
        go_upto_region 14 with fail
        go_cut [109] from 91 to 109 (fun u wx => u = .bool (ahead x y fx fy) ∧ wx = wc)
        case first =>
          have HAH : Hid (ahead x y fx fy = (decide ((y : Int) < fy) || (decide ((y : Int) = fy) && decide (x < fx)))) := rfl
          by_cases h1 : (y : Int) < (fy : Int)
          · have hh : Hid (true = ahead x y fx fy) := by
                show true = ahead x y fx fy
                rw [HAH.out, decide_eq_true h1]; rfl
            go_wp2_with fail
            go_meet
            exact ⟨congrArg Value.bool hh.out, rfl⟩
          · by_cases h2 : (fy : Int) = (y : Int)
            · have j2 : ((fy : Int) == (y : Int)) = true := by rw [beq_iff_eq]; exact h2
              have hh : Hid (decide (x < fx) = ahead x y fx fy) := by
                show decide (x < fx) = ahead x y fx fy
                rw [HAH.out, decide_eq_false h1, decide_eq_true h2.symm]; simp
              clear h2
              go_wp2_with fail
              go_meet
              exact ⟨congrArg Value.bool hh.out, rfl⟩
            · have j2 : ((fy : Int) == (y : Int)) = false := by rw [beq_eq_false_iff_ne]; exact h2
              have hh : Hid (false = ahead x y fx fy) := by
                show false = ahead x y fx fy
                rw [HAH.out, decide_eq_false h1, decide_eq_false (fun e => h2 e.symm)]; rfl
              go_wp2_with fail
              go_meet
              exact ⟨congrArg Value.bool hh.out, rfl⟩
        case rest =>
          obtain ⟨rfl, rfl⟩ := hcut
          go_upto_if 109 with fail
          go_cut [] from 91 to 111 (fun wx => ∃ (ax : Int) (ay : Nat) (bx : Int) (cy : Nat), Below w.heap.size w wx ∧ wx.heap[p]? = some (.cells #[.int .i64 ax, .int .i64 ay] 24 (0, 0)) ∧ wx.heap[q]? = some (.cells #[.int .i64 bx, .int .i64 cy] 24 (0, 0)) ∧ M = betM L ax ay bx cy ∧ ay ≤ cy ∧ (ay = cy → ax ≤ bx) ∧ cy < L.length ∧ 0 ≤ ax)
          case first =>
            cases hh : ahead x y fx fy
            · go_wp2_with fail
              go_meet
              exact ⟨fx, fy, x, y, kV, hP, hQ, by rw [HM2.out, hh]; rfl, (ahead_false hh).1, (ahead_false hh).2, Int.ofNat_lt.1 n5, n10⟩
            · have fp : ∀ i, wc.frozen? ⟨p, i, none⟩ = false := fun i => by simp [World.frozen?, hP]
              have fq : ∀ i, wc.frozen? ⟨q, i, none⟩ = false := fun i => by simp [World.frozen?, hQ]
              have hpq2 := hpq.symm
              have ka : Below w.heap.size w ((((wc.setCell ⟨p, 0, none⟩ (.int .i64 x)).setCell ⟨p, 1, none⟩ (.int .i64 y)).setCell ⟨q, 0, none⟩ (.int .i64 fx)).setCell ⟨q, 1, none⟩ (.int .i64 fy)) := (((kV.setCell (p := ⟨p, 0, none⟩) hp9 _).setCell (p := ⟨p, 1, none⟩) hp9 _).setCell (p := ⟨q, 0, none⟩) hq9 _).setCell (p := ⟨q, 1, none⟩) hq9 _
              have hA : ((((wc.setCell ⟨p, 0, none⟩ (.int .i64 x)).setCell ⟨p, 1, none⟩ (.int .i64 y)).setCell ⟨q, 0, none⟩ (.int .i64 fx)).setCell ⟨q, 1, none⟩ (.int .i64 fy)).heap[p]? = _ := (RowKit.Below.heap_setCell _ _ _ _ hpq).trans ((RowKit.Below.heap_setCell _ _ _ _ hpq).trans (heap_setCell_same _ p 1 _ _ _ (heap_setCell_same _ p 0 _ _ _ hP)))
              have hB : ((((wc.setCell ⟨p, 0, none⟩ (.int .i64 x)).setCell ⟨p, 1, none⟩ (.int .i64 y)).setCell ⟨q, 0, none⟩ (.int .i64 fx)).setCell ⟨q, 1, none⟩ (.int .i64 fy)).heap[q]? = _ := heap_setCell_same _ q 1 _ _ _ (heap_setCell_same _ q 0 _ _ _ ((RowKit.Below.heap_setCell _ _ _ _ hpq2).trans ((RowKit.Below.heap_setCell _ _ _ _ hpq2).trans hQ)))
              go_wp2_with fail
              go_meet
              exact ⟨x, y, fx, fy, ka, hA, hB, by rw [HM2.out, hh]; rfl, (ahead_true hh).1, (ahead_true hh).2, Int.ofNat_lt.1 n9, n6⟩
          case rest =>
            obtain ⟨ax, ay, bx, cy, kU, hP2, hQ2, hM, hab, hxx, hcy, hax⟩ := hcut
            clear p0 p1 q0 q1 hP hQ kV HM2 hpq
            obtain ⟨B0, hB0⟩ : ∃ B, wc.heap.size = B := ⟨_, rfl⟩
            have HI0 : Hid (TInv w p q B0 ax ay bx cy (.slice none 0 0) [] wc) := ⟨kU, hP2, hQ2, World.ownsRow_nil _ _ _ _, by rw [← hB0]; exact (Array.getElem?_eq_some_iff.1 hP2).1, by rw [← hB0]; exact (Array.getElem?_eq_some_iff.1 hQ2).1, by rw [← hB0]; exact kU.size, by rw [← hB0]; exact Nat.le_refl _⟩
            obtain ⟨i0, hi, hzz⟩ := Option.map_eq_some_iff.1 info_st
            simp only [Prod.mk.injEq] at hzz
            obtain ⟨hz0, hz1, hz2⟩ := hzz
            obtain ⟨p0, p1⟩ := cells2 hP2
            have HM : Hid (M = betM L ax ay bx cy) := hM
            have HX : Hid (ay = cy → ax ≤ bx) := hxx
            have HAX : Hid (0 ≤ ax) := hax
            have HLL : Hid (∀ s ∈ L, s.size ≤ 4000) := n3
            obtain ⟨b, o, c', hv, _⟩ := (HLS.out _ (Below.refl _ _)).get hcy
            injection hv with e1 e2 e3
            subst e1 e3
            clear hP2 hQ2 kU hM hxx hax hB0 n3 n4 n5 n6 n7 n8 n9 n10 n11 hp9 hq9 k1 k2 k3 k4 HC
            go_wp2_with fail
            clear p0 p1
            go_loopg [15, 16] (cy + 1 - ay) (fun g u15 u16 wr => ∃ n : Nat, u16 = .int .i64 ((ay + n : Nat) : Int) ∧ ay + n ≤ cy + 1 ∧ cy + 1 - (ay + n) ≤ g ∧ TInv w p q B0 ax ay bx cy u15 (partsM L ax ay bx cy n) wr)
            case atStart => exact ⟨0, rfl, by omega, by omega, HI0.out⟩
            case round =>
              obtain ⟨n, rfl, hn1, hg, hI⟩ := hrel
              have HI : Hid (TInv w p q B0 ax ay bx cy u15 (partsM L ax ay bx cy n) wr) := hI
              obtain ⟨q0, q1⟩ := cells2 hI.Q
              clear HI0 hI
              by_cases hlt : ay + n ≤ cy
              · have iy1 : ((ay + n : Nat) : Int) ≤ (cy : Int) := Int.ofNat_le.2 hlt
                have hyl : ay + n < L.length := by omega
                have HP : Hid (partsM L ax ay bx cy (n + 1) = partsM L ax ay bx cy n ++ [runesBytes (partM L ax ay bx cy (ay + n))]) := partsM_succ L ax ay bx cy n
                have HPL : Hid ((partsM L ax ay bx cy n).length = n) := partsM_len L ax ay bx cy n
                have HPT : Hid (runesBytes (partM L ax ay bx cy (ay + n)) = bs (E (tk (sp (ln L (ay + n))) (ay + n == ay) (ay + n == cy) ax bx (sp (ln L (ay + n))).length))) := part_tk L ax ay bx cy (ay + n) HAX.out HX.out
                obtain ⟨b', o', c', hv, q9⟩ := (HLS.out _ HI.out.kb).get hyl
                injection hv with e1 e2 e3
                injection e1 with e1
                injection e1 with e1 e4
                subst e1 e4 e3
                have iyl : ((ay + n : Nat) : Int) < (L.length : Int) := Int.ofNat_lt.2 hyl
                have hs := ln_size HLL.out (ay + n)
                have hsl := sp_len (ln L (ay + n))
                have HSP := Txt.spots_any (ln L (ay + n)) wr (by omega)
                rw [show Txt.spotsL (Txt.runes (ln L (ay + n))) 0 = sp (ln L (ay + n)) from rfl] at HSP
                have HCOL : Hid (∀ (i : Nat) (h : i < (sp (ln L (ay + n))).length), 0 ≤ (sp (ln L (ay + n)))[i].2 ∧ (sp (ln L (ay + n)))[i].2 ≤ 8000) := sp_col (ln L (ay + n)) hs
                generalize sp (ln L (ay + n)) = S at *
                have HSL : Hid (S.length ≤ 4000) := Nat.le_trans hsl hs
                generalize hy : ay + n = y0 at *
                obtain ⟨f, hf⟩ : ∃ f, (y0 == ay) = f := ⟨_, rfl⟩
                obtain ⟨l, hl⟩ : ∃ l, (y0 == cy) = l := ⟨_, rfl⟩
                rw [hf, hl] at HPT
                have HYN : Hid (ay + n = y0) := hy
                have HF : Hid ((y0 == ay) = f) := hf
                have HL : Hid ((y0 == cy) = l) := hl
                generalize ln L y0 = s at *
                clear hs hsl hy hf hl
                go_wp2_with fail
                refine HSP.mono ?_
                rintro e W1 ⟨v1, rfl, hown, b1⟩
                obtain ⟨sa, sc, rfl, hsc⟩ := spot_cells hown
                have HI1 : Hid (TInv w p q B0 ax ay bx cy u15 (partsM L ax ay bx cy n) W1) := HI.out.below b1
                have HSC : Hid (S = [] ∨ ∃ g, sa = some ⟨g, 0, none⟩ ∧ ∀ (i : Nat) (hi : i < S.length), W1.cell? ⟨g, i * 2, none⟩ = some (.int .i32 S[i].1) ∧ W1.cell? ⟨g, i * 2 + 1, none⟩ = some (.int .i64 S[i].2)) := hsc
                clear HSP hown hsc b1 HI q0 q1 q9
                go_wp2_with fail
                go_loopg [17, 126] S.length (fun g u17 u126 wr => ∃ i : Nat, u126 = .int .i64 (i : Int) ∧ i ≤ S.length ∧ S.length - i ≤ g ∧ u17 = .string (bs (E (tk S f l ax bx i))) ∧ Below W1.heap.size W1 wr)
                case atStart => exact ⟨0, rfl, Nat.zero_le _, by omega, rfl, Below.refl _ _⟩
                case round =>
                  obtain ⟨i, rfl, hi1, hg1, rfl, b2⟩ := hrel
                  by_cases hin : i < S.length
                  · have ii : (i : Int) < (S.length : Int) := Int.ofNat_lt.2 hin
                    obtain ⟨g1, rfl, hg2⟩ := HSC.out.resolve_left (by intro e; rw [e] at hin; simp at hin)
                    have q3 := CK.below b2 _ _ _ (hg2 i hin).1
                    have q4 := CK.below b2 _ _ _ (hg2 i hin).2
                    obtain ⟨x0, x9⟩ := HCOL.out i hin
                    have HTK : Hid (tk S f l ax bx (i + 1) = tk S f l ax bx i ++ (if inM f l ax bx (S[i].1, S[i].2) then [S[i].1] else [])) := tk_succ S f l ax bx i hin
                    have HEL : Hid ((E (tk S f l ax bx i)).length ≤ 16000) := by
                      have h1 := E_le (tk S f l ax bx i)
                      have h2 := tk_len S f l ax bx i
                      have h3 := HSL.out
                      show _ ≤ _
                      omega
                    generalize S[i].1 = r at *
                    generalize S[i].2 = xc at *
                    have l2 := heap_alloc_new wr (.cells #[.int .i32 r, .int .i64 xc] 42)
                    have kA : Below wr.heap.size wr (wr.alloc (.cells #[.int .i32 r, .int .i64 xc] 42)) := (Below.refl _ _).alloc (Nat.le_refl _) _
                    have I3 := (HI1.out.below b2).below kA
                    have b3 := b2.trans (kA.mono b2.size)
                    clear hg2 b2 kA
                    go_upto_region 24 with fail
                    generalize hW2 : wr.alloc (.cells #[.int .i32 r, .int .i64 xc] 42) = W2 at *
                    have HB3 : Hid (Below W1.heap.size W1 W2) := b3
                    have HI3 : Hid (TInv w p q B0 ax ay bx cy u15 (partsM L ax ay bx cy n) W2) := I3
                    have hlt2 : wr.heap.size < W2.heap.size := by rw [← hW2, World.size_alloc]; omega
                    go_cut [158] from 130 to 158 (fun u wx => u = .bool (inM f l ax bx (r, xc)) ∧ Below W2.heap.size W2 wx)
                    case first =>
                      obtain ⟨p0, p1⟩ := cells2 I3.P
                      obtain ⟨q0, q1⟩ := cells2 I3.Q
                      obtain ⟨s0, s1⟩ := cells2 l2
                      have g0 := fun d os => cell_regrown p0 d os
                      have g1 := fun d os => cell_regrown p1 d os
                      have g2 := fun d os => cell_regrown q0 d os
                      have g3 := fun d os => cell_regrown q1 d os
                      have g4 := fun d os => cell_regrown s0 d os
                      have g5 := fun d os => cell_regrown s1 d os
                      have hwd := Txt.wd_range r
                      have HWD := fun V => Txt.widthOf_any r V
                      have HIN : Hid (inM f l ax bx (r, xc) = ((!f || decide (ax ≤ xc + wd r - 1)) && (!l || decide (xc ≤ bx)))) := rfl
                      generalize wd r = z at *
                      have K1 : Hid (∀ d os, Calls Tryd.prog 15 #[.int .i32 r] (grow (redrawn W2 d) os) fun e w'' => e = .returned (.int .i64 z) ∧ ∃ p : Regrown, w'' = grow (redrawn W2 p.d) p.os) := fun d os => Calls.regrown_of (HWD _)
                      have hz3 : IntKind.i64.wrap (xc + z) = xc + z := i64_small (by omega) (by omega)
                      have hz4 : IntKind.i64.wrap (xc + z - 1) = xc + z - 1 := i64_small (by omega) (by omega)
                      have hz1 : wrap64 (xc + z) = xc + z := w64_small (by clear hz3 hz4; omega) (by clear hz3 hz4; omega)
                      have hz2 : wrap64 (xc + z - 1) = xc + z - 1 := w64_small (by clear hz1 hz3 hz4; omega) (by clear hz1 hz3 hz4; omega)
                      clear HWD
                      cases f
                      · have jf : (ay : Int) < (y0 : Int) := by
                          have h1 := HF.out
                          have h2 := HYN.out
                          rw [beq_eq_false_iff_ne] at h1
                          clear hz1 hz2 hz3 hz4
                          omega
                        have jfn : ay < y0 := Int.ofNat_lt.1 jf
                        have jfd : decide ((ay : Int) < (y0 : Int)) = true := decide_eq_true jf
                        have jfe : decide (ay < y0) = true := decide_eq_true jfn
                        cases l
                        · have jl : (y0 : Int) < (cy : Int) := by
                            have h1 := HL.out
                            rw [beq_eq_false_iff_ne] at h1
                            have h2 := HYN.out
                            clear hz1 hz2 hz3 hz4
                            omega
                          have jln : y0 < cy := Int.ofNat_lt.1 jl
                          have jld : decide ((y0 : Int) < (cy : Int)) = true := decide_eq_true jl
                          have jle : decide (y0 < cy) = true := decide_eq_true jln
                          have hh : Hid (true = inM false false ax bx (r, xc)) := by
                            show true = _
                            rw [HIN.out]
                            simp
                          refine wp_region_quiet_below (by kernel_rfl) (by kernel_rfl) ?_
                          repeat (first | go_big_quiet_skip | quiet_step (first | (go_at_call 15; exact K1.out _ _)))
                          refine wpQuiet_nil ?_
                          intro _ hw'
                          obtain ⟨⟨dq, os⟩, hw''⟩ := hw'
                          subst hw''
                          have kR := below_regrown W2 dq os
                          go_wp2_with fail
                          go_meet
                          exact ⟨congrArg Value.bool hh.out, kR⟩
                        · have jl : ¬ (y0 : Int) < (cy : Int) := by
                            have h1 := beq_iff_eq.1 HL.out
                            clear hz1 hz2 hz3 hz4
                            omega
                          have jln : ¬ y0 < cy := fun h => jl (Int.ofNat_lt.2 h)
                          have jld : decide ((y0 : Int) < (cy : Int)) = false := decide_eq_false jl
                          have jle : decide (y0 < cy) = false := decide_eq_false jln
                          have hh : Hid (decide (xc ≤ bx) = inM false true ax bx (r, xc)) := by
                            show decide (xc ≤ bx) = _
                            rw [HIN.out]
                            simp
                          refine wp_region_quiet_below (by kernel_rfl) (by kernel_rfl) ?_
                          repeat (first | go_big_quiet_skip | quiet_step (first | (go_at_call 15; exact K1.out _ _)))
                          refine wpQuiet_nil ?_
                          intro _ hw'
                          obtain ⟨⟨dq, os⟩, hw''⟩ := hw'
                          subst hw''
                          have kR := below_regrown W2 dq os
                          go_wp2_with fail
                          go_meet
                          exact ⟨congrArg Value.bool hh.out, kR⟩
                      · have jf : ¬ (ay : Int) < (y0 : Int) := by
                          have h1 := beq_iff_eq.1 HF.out
                          clear hz1 hz2 hz3 hz4
                          omega
                        have jfn : ¬ ay < y0 := fun h => jf (Int.ofNat_lt.2 h)
                        have jfd : decide ((ay : Int) < (y0 : Int)) = false := decide_eq_false jf
                        have jfe : decide (ay < y0) = false := decide_eq_false jfn
                        by_cases hc : ax ≤ xc + z - 1
                        · have jc : ax ≤ xc + z - 1 := hc
                          have jcd : decide (ax ≤ xc + z - 1) = true := decide_eq_true hc
                          cases l
                          · have jl : (y0 : Int) < (cy : Int) := by
                              have h1 := HL.out
                              rw [beq_eq_false_iff_ne] at h1
                              have h2 := HYN.out
                              clear hz1 hz2 hz3 hz4
                              omega
                            have jln : y0 < cy := Int.ofNat_lt.1 jl
                            have jld : decide ((y0 : Int) < (cy : Int)) = true := decide_eq_true jl
                            have jle : decide (y0 < cy) = true := decide_eq_true jln
                            have hh : Hid (true = inM true false ax bx (r, xc)) := by
                              show true = _
                              rw [HIN.out]
                              rw [jcd]; simp
                            refine wp_region_quiet_below (by kernel_rfl) (by kernel_rfl) ?_
                            repeat (first | go_big_quiet_skip | quiet_step (first | (go_at_call 15; exact K1.out _ _)))
                            refine wpQuiet_nil ?_
                            intro _ hw'
                            obtain ⟨⟨dq, os⟩, hw''⟩ := hw'
                            subst hw''
                            have kR := below_regrown W2 dq os
                            go_wp2_with fail
                            go_meet
                            exact ⟨congrArg Value.bool hh.out, kR⟩
                          · have jl : ¬ (y0 : Int) < (cy : Int) := by
                              have h1 := beq_iff_eq.1 HL.out
                              clear hz1 hz2 hz3 hz4
                              omega
                            have jln : ¬ y0 < cy := fun h => jl (Int.ofNat_lt.2 h)
                            have jld : decide ((y0 : Int) < (cy : Int)) = false := decide_eq_false jl
                            have jle : decide (y0 < cy) = false := decide_eq_false jln
                            have hh : Hid (decide (xc ≤ bx) = inM true true ax bx (r, xc)) := by
                              show decide (xc ≤ bx) = _
                              rw [HIN.out]
                              rw [jcd]; simp
                            refine wp_region_quiet_below (by kernel_rfl) (by kernel_rfl) ?_
                            repeat (first | go_big_quiet_skip | quiet_step (first | (go_at_call 15; exact K1.out _ _)))
                            refine wpQuiet_nil ?_
                            intro _ hw'
                            obtain ⟨⟨dq, os⟩, hw''⟩ := hw'
                            subst hw''
                            have kR := below_regrown W2 dq os
                            go_wp2_with fail
                            go_meet
                            exact ⟨congrArg Value.bool hh.out, kR⟩
                        · have jc : ¬ ax ≤ xc + z - 1 := hc
                          have jcd : decide (ax ≤ xc + z - 1) = false := decide_eq_false hc
                          have hh : Hid (false = inM true l ax bx (r, xc)) := by
                            show false = _
                            rw [HIN.out]
                            rw [jcd]; simp
                          refine wp_region_quiet_below (by kernel_rfl) (by kernel_rfl) ?_
                          repeat (first | go_big_quiet_skip | quiet_step (first | (go_at_call 15; exact K1.out _ _)))
                          refine wpQuiet_nil ?_
                          intro _ hw'
                          obtain ⟨⟨dq, os⟩, hw''⟩ := hw'
                          subst hw''
                          have kR := below_regrown W2 dq os
                          go_wp2_with fail
                          go_meet
                          exact ⟨congrArg Value.bool hh.out, kR⟩
                    case rest =>
                      obtain ⟨rfl, b4⟩ := hcut
                      have hi4 : i < 4000 := Nat.lt_of_lt_of_le hin HSL.out
                      have l4 := kept l2 b4
                      have b5 := HB3.out.trans (b4.mono HB3.out.size)
                      obtain ⟨s0, s1⟩ := cells2 l4
                      cases hm : inM f l ax bx (r, xc)
                      · rw [hm] at HTK
                        go_wp2_with fail
                        go_roundg (S.length - (i + 1))
                        case measure => omega
                        case rel => exact ⟨i + 1, by go_num, by omega, Nat.le_refl _, by rw [HTK.out]; simp, b5⟩
                      · rw [hm] at HTK
                        have HE : Hid (Utf8.encode r = bs (Lib.encodeRune r)) := Txt.encode_eq r
                        have h4 := (Txt.encodeRune_length r).2
                        have hsum : ¬ 9223372036854775807 < (bs (E (tk S f l ax bx i))).size + (Utf8.encode r).size := by
                          have := HEL.out
                          rw [HE.out, Txt.bs_size, Txt.bs_size]
                          omega
                        go_wp2_with fail
                        go_roundg (S.length - (i + 1))
                        case measure => omega
                        case rel => exact ⟨i + 1, by go_num, by omega, Nat.le_refl _, by rw [HTK.out, HE.out, Txt.bs_append]; simp [E], b5⟩
                  · obtain rfl : i = S.length := by omega
                    have ii : ¬ (S.length : Int) < (S.length : Int) := Int.lt_irrefl _
                    have I3 := HI1.out.below b2
                    have HOWN : Hid (wr.ownsRow B0 9 1 u15 (partsM L ax ay bx cy n).length ((partsM L ax ay bx cy n).map Value.string)) := I3.own
                    have HI3 : Hid (TInv w p q B0 ax ay bx cy u15 (partsM L ax ay bx cy n) wr) := I3
                    generalize hpt : bs (E (tk S f l ax bx S.length)) = pt at *
                    clear I3 b2
                    go_wp2_with (first | (at_builtin; refine wpList_append_own _ rfl _ _ 22 rfl B0 9 i0 (.string ByteArray.empty) 1 16 und_st hi hz0 hz1 hz2 rfl (by decide) _ _ _ rfl (HOWN.out.alloc _) ⟨wr.heap.size, 0, none⟩ 1 1 [.string pt] rfl rfl (cell_one_new _ _ _) (by intro u hu; simp at hu; rw [hu]; rfl) (by unfold maxLen; have := HPL.out; have := HYN.out; omega) (by have := HPL.out; have := HYN.out; omega) (by have := HI3.out.hV; simp; omega) ?_; intro v' w2 hown' hgrow hnil))
                    have hI3 := HI3.out.step hgrow hown'
                    have hp := HP.out
                    rw [HPT.out] at hp
                    rw [← hp] at hI3
                    have HI9 : Hid (TInv w p q B0 ax ay bx cy v' (partsM L ax ay bx cy (n + 1)) w2) := hI3
                    clear hI3 hp
                    go_roundg (cy + 1 - (y0 + 1))
                    case measure => omega
                    case rel => exact ⟨n + 1, by rw [show ay + (n + 1) = y0 + 1 by have := HYN.out; omega]; go_num, by have := HYN.out; omega, by have := HYN.out; omega, HI9.out⟩
              · have iy1 : ¬ ((ay + n : Nat) : Int) ≤ (cy : Int) := by omega
                have hI := HI.out
                have hn9 : cy + 1 - ay = n := by omega
                have hr := HM.out
                unfold betM at hr
                rw [hn9] at hr
                have hne : partsM L ax ay bx cy n ≠ [] := by
                  intro e
                  have := congrArg List.length e
                  rw [partsM_len] at this
                  simp at this
                  omega
                have kb9 := hI.kb
                have hj := join_le (partsM L ax ay bx cy n) 16000 (fun s hs => partsM_size hs (fun y => ln_size HLL.out y))
                rw [partsM_len] at hj
                obtain ⟨a5, c5, hv5, hc5, hb5⟩ := hI.own.open
                obtain ⟨g5, o5, rfl, hcells⟩ := hb5.resolve_left hne
                have hg5 : g5 < wr.heap.size := by
                  cases hh : partsM L ax ay bx cy n with
                  | nil => exact absurd hh hne
                  | cons z zs => exact lt_of_cell (hcells 0 z (by rw [hh]; rfl))
                subst hv5
                have HJ := Tryd.strings_Join g5 o5 c5 (partsM L ax ay bx cy n) ⟨#[10]⟩ wr hcells hg5 (by rw [partsM_len]; omega) hc5 (by
                  show (Lib.join _ [10]).length ≤ _
                  omega)
                rw [show (⟨(Lib.join ((partsM L ax ay bx cy n).map (·.data.toList)) (⟨#[10]⟩ : ByteArray).data.toList).toArray⟩ : ByteArray) = M from hr.symm] at HJ
                rw [partsM_len] at *
                clear hcells hI HI hne hr hc5 hb5 hg5
                go_wp2_with fail
                refine HJ.mono ?_
                rintro e W9 ⟨rfl, b9⟩
                have k9 := kb9.trans (b9.mono kb9.size)
                by_cases hs : 4000 < M.size
                · have is : (4000 : Int) < (M.size : Int) := Int.ofNat_lt.2 hs
                  have he : E0 = 10 := by rw [HTE2.out, if_pos hs]
                  have ht : T0 = ⟨#[]⟩ := by rw [HT2.out, he, if_neg (by decide)]
                  subst he ht
                  go_wp2_with fail
                  go_ret
                  exact ⟨rfl, k9⟩
                · have is : ¬ (4000 : Int) < (M.size : Int) := fun h => hs (Int.ofNat_lt.1 h)
                  have he : E0 = 0 := by rw [HTE2.out, if_neg hs]
                  have ht : T0 = M := by rw [HT2.out, he, if_pos rfl]
                  subst he ht
                  go_wp2_with fail
                  go_ret
                  exact ⟨rfl, k9⟩
    · simp only [selK, if_true, Cp.cells] at *
      clear hR
      go_enter Tryd.func4, Tryd.ntmps4
      go_wp2_with fail
      refine (H1 _ kb).mono ?_
      rintro e W1 ⟨rfl, b1⟩
      have k1 := kb.trans (b1.mono kb.size)
      have kA : Below W1.heap.size W1 (W1.alloc (.cells #[.int .i64 x, .int .i64 y, .int .i64 x, .int .i64 y, .bool true] 26)) := (Below.refl _ _).alloc (Nat.le_refl _) _
      have X1 : BoxAt (W1.alloc (.cells #[.int .i64 x, .int .i64 y, .int .i64 x, .int .i64 y, .bool true] 26)) W1.heap.size ⟨x, y, x, y, true⟩ := heap_alloc_new W1 (.cells #[.int .i64 x, .int .i64 y, .int .i64 x, .int .i64 y, .bool true] 26)
      have k2 := k1.trans (kA.mono k1.size)
      have Y2 := (Y0.below b1).below kA
      obtain ⟨⟨c0, c1, c2, c3, c4⟩, _⟩ := Y2.cells
      simp only [] at c0 c1 c2 c3 c4
      clear H1 kA b1 Y0
      go_wp2_with fail
      refine (H2 _ k2).mono ?_
      rintro e W2 ⟨rfl, b2⟩
      have k3 := k2.trans (b2.mono k2.size)
      have Y3 := Y2.below b2
      have X3 := X1.below b2
      obtain ⟨⟨c0, c1, c2, c3, c4⟩, _⟩ := Y3.cells
      simp only [] at c0 c1 c2 c3 c4
      clear H2 b2 Y2 X1
      go_wp2_with fail
      refine (H3 _ k3).mono ?_
      rintro e W3 ⟨rfl, b3⟩
      have k4 := k3.trans (b3.mono k3.size)
      have Y4 := Y3.below b3
      have X4 := X3.below b3
      clear H3 b3 Y3 X3
      go_wp2_with fail
      refine (HC _ k4).mono ?_
      rintro e W4 ⟨rfl, b4⟩
      have k5 := k4.trans (b4.mono k4.size)
      have Y5 := Y4.below b4
      have X5 := X4.below b4
      clear b4 Y4 X4 c0 c1 c2 c3 c4
      obtain ⟨⟨c0, c1, c2, c3, c4⟩, hfY⟩ := Y5.cells
      obtain ⟨⟨d0, d1, d2, d3, d4⟩, hfX⟩ := X5.cells
      simp only [] at c0 c1 c2 c3 c4 d0 d1 d2 d3 d4
      have kW : ∀ o, Below W4.heap.size W4 (W4.alloc o) := fun o => (Below.refl _ _).alloc (Nat.le_refl _) _
      have k6 := fun o => k5.trans ((kW o).mono k5.size)
      have c0' := fun o => CK.below (kW o) _ _ _ c0
      have c1' := fun o => CK.below (kW o) _ _ _ c1
      have c2' := fun o => CK.below (kW o) _ _ _ c2
      have c3' := fun o => CK.below (kW o) _ _ _ c3
      have c4' := fun o => CK.below (kW o) _ _ _ c4
      have d0' := fun o => CK.below (kW o) _ _ _ d0
      have d1' := fun o => CK.below (kW o) _ _ _ d1
      have d2' := fun o => CK.below (kW o) _ _ _ d2
      have d3' := fun o => CK.below (kW o) _ _ _ d3
      have d4' := fun o => CK.below (kW o) _ _ _ d4
      go_upto_region 13 with fail
      go_cut [13, 14] from 87 to 90 (fun u13 u14 wx => ∃ p q : Nat, u13 = .pointer (some ⟨p, 0, none⟩) ∧ u14 = .pointer (some ⟨q, 0, none⟩) ∧ Below w.heap.size w wx ∧ wx.heap[p]? = some (.cells #[.int .i64 fx, .int .i64 fy] 24 (0, 0)) ∧ wx.heap[q]? = some (.cells #[.int .i64 x, .int .i64 y] 24 (0, 0)) ∧ p ≠ q ∧ w.heap.size ≤ p ∧ w.heap.size ≤ q)
      case first =>
        have k7 := k6 (.cells #[.int .i64 x, .int .i64 y, .int .i64 x, .int .i64 y, .bool true] 26)
        have e0 := c0' (.cells #[.int .i64 x, .int .i64 y, .int .i64 x, .int .i64 y, .bool true] 26)
        have e1 := c1' (.cells #[.int .i64 x, .int .i64 y, .int .i64 x, .int .i64 y, .bool true] 26)
        have e2 := c2' (.cells #[.int .i64 x, .int .i64 y, .int .i64 x, .int .i64 y, .bool true] 26)
        have e3 := c3' (.cells #[.int .i64 x, .int .i64 y, .int .i64 x, .int .i64 y, .bool true] 26)
        clear c0 c1 c2 c3 c4 d0 d1 d2 d3 d4 c0' c1' c2' c3' c4' d0' d1' d2' d3' d4' kW k6 X5 Y5 hfX hfY
        generalize W4.alloc (.cells #[.int .i64 x, .int .i64 y, .int .i64 x, .int .i64 y, .bool true] 26) = W5 at *
        have kA : ∀ o, Below W5.heap.size W5 (W5.alloc o) := fun o => (Below.refl _ _).alloc (Nat.le_refl _) _
        have kB : ∀ o o', Below W5.heap.size W5 ((W5.alloc o).alloc o') := fun o o' => (kA o).alloc (by rw [World.size_alloc]; omega) _
        have f0 := fun o => CK.below (kA o) _ _ _ e0
        have f1 := fun o => CK.below (kA o) _ _ _ e1
        have f2 := fun o => CK.below (kA o) _ _ _ e2
        have f3 := fun o => CK.below (kA o) _ _ _ e3
        have g0 := fun o o' => CK.below (kB o o') _ _ _ e0
        have g1 := fun o o' => CK.below (kB o o') _ _ _ e1
        have g2 := fun o o' => CK.below (kB o o') _ _ _ e2
        have g3 := fun o o' => CK.below (kB o o') _ _ _ e3
        have HKB : Hid (∀ o o', Below w.heap.size w ((W5.alloc o).alloc o')) := fun o o' => k7.trans ((kB o o').mono k7.size)
        have HS7 : Hid (w.heap.size ≤ W5.heap.size) := k7.size
        clear kA kB
        go_region
        · go_wp2_with fail
          go_meet
          have hB := heap_alloc_new (W5.alloc (.cells #[.int .i64 fx, .int .i64 fy] 24)) (.cells #[.int .i64 x, .int .i64 y] 24)
          rw [World.size_alloc] at hB
          have hA := (heap_alloc_old (W5.alloc (.cells #[.int .i64 fx, .int .i64 fy] 24)) (.cells #[.int .i64 x, .int .i64 y] 24) (r := W5.heap.size) (by rw [World.size_alloc]; omega)).trans (heap_alloc_new W5 (.cells #[.int .i64 fx, .int .i64 fy] 24))
          exact ⟨W5.heap.size, W5.heap.size + 1, rfl, rfl, (HKB.out _ _).drew, hA, hB, by omega, HS7.out, Nat.le_succ_of_le HS7.out⟩
        · go_wp2_with fail
          go_meet
          have hB := heap_alloc_new (W5.alloc (.cells #[.int .i64 x, .int .i64 y] 24)) (.cells #[.int .i64 fx, .int .i64 fy] 24)
          rw [World.size_alloc] at hB
          have hA := (heap_alloc_old (W5.alloc (.cells #[.int .i64 x, .int .i64 y] 24)) (.cells #[.int .i64 fx, .int .i64 fy] 24) (r := W5.heap.size) (by rw [World.size_alloc]; omega)).trans (heap_alloc_new W5 (.cells #[.int .i64 x, .int .i64 y] 24))
          exact ⟨W5.heap.size + 1, W5.heap.size, rfl, rfl, (HKB.out _ _).drew, hB, hA, by omega, Nat.le_succ_of_le HS7.out, HS7.out⟩
      case rest =>
        obtain ⟨p, q, rfl, rfl, kV, hP, hQ, hpq, hp9, hq9⟩ := hcut
        clear c0 c1 c2 c3 c4 d0 d1 d2 d3 d4 c0' c1' c2' c3' c4' d0' d1' d2' d3' d4' kW k6 k5 X5 Y5 hfX hfY
        obtain ⟨p0, p1⟩ := cells2 hP
        obtain ⟨q0, q1⟩ := cells2 hQ
        go_upto_region 14 with fail
        go_cut [109] from 91 to 109 (fun u wx => u = .bool (ahead x y fx fy) ∧ wx = wc)
        case first =>
          have HAH : Hid (ahead x y fx fy = (decide ((y : Int) < fy) || (decide ((y : Int) = fy) && decide (x < fx)))) := rfl
          by_cases h1 : (y : Int) < (fy : Int)
          · have hh : Hid (true = ahead x y fx fy) := by
                show true = ahead x y fx fy
                rw [HAH.out, decide_eq_true h1]; rfl
            go_wp2_with fail
            go_meet
            exact ⟨congrArg Value.bool hh.out, rfl⟩
          · by_cases h2 : (fy : Int) = (y : Int)
            · have j2 : ((fy : Int) == (y : Int)) = true := by rw [beq_iff_eq]; exact h2
              have hh : Hid (decide (x < fx) = ahead x y fx fy) := by
                show decide (x < fx) = ahead x y fx fy
                rw [HAH.out, decide_eq_false h1, decide_eq_true h2.symm]; simp
              clear h2
              go_wp2_with fail
              go_meet
              exact ⟨congrArg Value.bool hh.out, rfl⟩
            · have j2 : ((fy : Int) == (y : Int)) = false := by rw [beq_eq_false_iff_ne]; exact h2
              have hh : Hid (false = ahead x y fx fy) := by
                show false = ahead x y fx fy
                rw [HAH.out, decide_eq_false h1, decide_eq_false (fun e => h2 e.symm)]; rfl
              go_wp2_with fail
              go_meet
              exact ⟨congrArg Value.bool hh.out, rfl⟩
        case rest =>
          obtain ⟨rfl, rfl⟩ := hcut
          go_upto_if 109 with fail
          go_cut [] from 91 to 111 (fun wx => ∃ (ax : Int) (ay : Nat) (bx : Int) (cy : Nat), Below w.heap.size w wx ∧ wx.heap[p]? = some (.cells #[.int .i64 ax, .int .i64 ay] 24 (0, 0)) ∧ wx.heap[q]? = some (.cells #[.int .i64 bx, .int .i64 cy] 24 (0, 0)) ∧ M = betM L ax ay bx cy ∧ ay ≤ cy ∧ (ay = cy → ax ≤ bx) ∧ cy < L.length ∧ 0 ≤ ax)
          case first =>
            cases hh : ahead x y fx fy
            · go_wp2_with fail
              go_meet
              exact ⟨fx, fy, x, y, kV, hP, hQ, by rw [HM2.out, hh]; rfl, (ahead_false hh).1, (ahead_false hh).2, Int.ofNat_lt.1 n5, n10⟩
            · have fp : ∀ i, wc.frozen? ⟨p, i, none⟩ = false := fun i => by simp [World.frozen?, hP]
              have fq : ∀ i, wc.frozen? ⟨q, i, none⟩ = false := fun i => by simp [World.frozen?, hQ]
              have hpq2 := hpq.symm
              have ka : Below w.heap.size w ((((wc.setCell ⟨p, 0, none⟩ (.int .i64 x)).setCell ⟨p, 1, none⟩ (.int .i64 y)).setCell ⟨q, 0, none⟩ (.int .i64 fx)).setCell ⟨q, 1, none⟩ (.int .i64 fy)) := (((kV.setCell (p := ⟨p, 0, none⟩) hp9 _).setCell (p := ⟨p, 1, none⟩) hp9 _).setCell (p := ⟨q, 0, none⟩) hq9 _).setCell (p := ⟨q, 1, none⟩) hq9 _
              have hA : ((((wc.setCell ⟨p, 0, none⟩ (.int .i64 x)).setCell ⟨p, 1, none⟩ (.int .i64 y)).setCell ⟨q, 0, none⟩ (.int .i64 fx)).setCell ⟨q, 1, none⟩ (.int .i64 fy)).heap[p]? = _ := (RowKit.Below.heap_setCell _ _ _ _ hpq).trans ((RowKit.Below.heap_setCell _ _ _ _ hpq).trans (heap_setCell_same _ p 1 _ _ _ (heap_setCell_same _ p 0 _ _ _ hP)))
              have hB : ((((wc.setCell ⟨p, 0, none⟩ (.int .i64 x)).setCell ⟨p, 1, none⟩ (.int .i64 y)).setCell ⟨q, 0, none⟩ (.int .i64 fx)).setCell ⟨q, 1, none⟩ (.int .i64 fy)).heap[q]? = _ := heap_setCell_same _ q 1 _ _ _ (heap_setCell_same _ q 0 _ _ _ ((RowKit.Below.heap_setCell _ _ _ _ hpq2).trans ((RowKit.Below.heap_setCell _ _ _ _ hpq2).trans hQ)))
              go_wp2_with fail
              go_meet
              exact ⟨x, y, fx, fy, ka, hA, hB, by rw [HM2.out, hh]; rfl, (ahead_true hh).1, (ahead_true hh).2, Int.ofNat_lt.1 n9, n6⟩
          case rest =>
            obtain ⟨ax, ay, bx, cy, kU, hP2, hQ2, hM, hab, hxx, hcy, hax⟩ := hcut
            clear p0 p1 q0 q1 hP hQ kV HM2 hpq
            obtain ⟨B0, hB0⟩ : ∃ B, wc.heap.size = B := ⟨_, rfl⟩
            have HI0 : Hid (TInv w p q B0 ax ay bx cy (.slice none 0 0) [] wc) := ⟨kU, hP2, hQ2, World.ownsRow_nil _ _ _ _, by rw [← hB0]; exact (Array.getElem?_eq_some_iff.1 hP2).1, by rw [← hB0]; exact (Array.getElem?_eq_some_iff.1 hQ2).1, by rw [← hB0]; exact kU.size, by rw [← hB0]; exact Nat.le_refl _⟩
            obtain ⟨i0, hi, hzz⟩ := Option.map_eq_some_iff.1 info_st
            simp only [Prod.mk.injEq] at hzz
            obtain ⟨hz0, hz1, hz2⟩ := hzz
            obtain ⟨p0, p1⟩ := cells2 hP2
            have HM : Hid (M = betM L ax ay bx cy) := hM
            have HX : Hid (ay = cy → ax ≤ bx) := hxx
            have HAX : Hid (0 ≤ ax) := hax
            have HLL : Hid (∀ s ∈ L, s.size ≤ 4000) := n3
            obtain ⟨b, o, c', hv, _⟩ := (HLS.out _ (Below.refl _ _)).get hcy
            injection hv with e1 e2 e3
            subst e1 e3
            clear hP2 hQ2 kU hM hxx hax hB0 n3 n4 n5 n6 n7 n8 n9 n10 n11 hp9 hq9 k1 k2 k3 k4 HC
            go_wp2_with fail
            clear p0 p1
            go_loopg [15, 16] (cy + 1 - ay) (fun g u15 u16 wr => ∃ n : Nat, u16 = .int .i64 ((ay + n : Nat) : Int) ∧ ay + n ≤ cy + 1 ∧ cy + 1 - (ay + n) ≤ g ∧ TInv w p q B0 ax ay bx cy u15 (partsM L ax ay bx cy n) wr)
            case atStart => exact ⟨0, rfl, by omega, by omega, HI0.out⟩
            case round =>
              obtain ⟨n, rfl, hn1, hg, hI⟩ := hrel
              have HI : Hid (TInv w p q B0 ax ay bx cy u15 (partsM L ax ay bx cy n) wr) := hI
              obtain ⟨q0, q1⟩ := cells2 hI.Q
              clear HI0 hI
              by_cases hlt : ay + n ≤ cy
              · have iy1 : ((ay + n : Nat) : Int) ≤ (cy : Int) := Int.ofNat_le.2 hlt
                have hyl : ay + n < L.length := by omega
                have HP : Hid (partsM L ax ay bx cy (n + 1) = partsM L ax ay bx cy n ++ [runesBytes (partM L ax ay bx cy (ay + n))]) := partsM_succ L ax ay bx cy n
                have HPL : Hid ((partsM L ax ay bx cy n).length = n) := partsM_len L ax ay bx cy n
                have HPT : Hid (runesBytes (partM L ax ay bx cy (ay + n)) = bs (E (tk (sp (ln L (ay + n))) (ay + n == ay) (ay + n == cy) ax bx (sp (ln L (ay + n))).length))) := part_tk L ax ay bx cy (ay + n) HAX.out HX.out
                obtain ⟨b', o', c', hv, q9⟩ := (HLS.out _ HI.out.kb).get hyl
                injection hv with e1 e2 e3
                injection e1 with e1
                injection e1 with e1 e4
                subst e1 e4 e3
                have iyl : ((ay + n : Nat) : Int) < (L.length : Int) := Int.ofNat_lt.2 hyl
                have hs := ln_size HLL.out (ay + n)
                have hsl := sp_len (ln L (ay + n))
                have HSP := Txt.spots_any (ln L (ay + n)) wr (by omega)
                rw [show Txt.spotsL (Txt.runes (ln L (ay + n))) 0 = sp (ln L (ay + n)) from rfl] at HSP
                have HCOL : Hid (∀ (i : Nat) (h : i < (sp (ln L (ay + n))).length), 0 ≤ (sp (ln L (ay + n)))[i].2 ∧ (sp (ln L (ay + n)))[i].2 ≤ 8000) := sp_col (ln L (ay + n)) hs
                generalize sp (ln L (ay + n)) = S at *
                have HSL : Hid (S.length ≤ 4000) := Nat.le_trans hsl hs
                generalize hy : ay + n = y0 at *
                obtain ⟨f, hf⟩ : ∃ f, (y0 == ay) = f := ⟨_, rfl⟩
                obtain ⟨l, hl⟩ : ∃ l, (y0 == cy) = l := ⟨_, rfl⟩
                rw [hf, hl] at HPT
                have HYN : Hid (ay + n = y0) := hy
                have HF : Hid ((y0 == ay) = f) := hf
                have HL : Hid ((y0 == cy) = l) := hl
                generalize ln L y0 = s at *
                clear hs hsl hy hf hl
                go_wp2_with fail
                refine HSP.mono ?_
                rintro e W1 ⟨v1, rfl, hown, b1⟩
                obtain ⟨sa, sc, rfl, hsc⟩ := spot_cells hown
                have HI1 : Hid (TInv w p q B0 ax ay bx cy u15 (partsM L ax ay bx cy n) W1) := HI.out.below b1
                have HSC : Hid (S = [] ∨ ∃ g, sa = some ⟨g, 0, none⟩ ∧ ∀ (i : Nat) (hi : i < S.length), W1.cell? ⟨g, i * 2, none⟩ = some (.int .i32 S[i].1) ∧ W1.cell? ⟨g, i * 2 + 1, none⟩ = some (.int .i64 S[i].2)) := hsc
                clear HSP hown hsc b1 HI q0 q1 q9
                go_wp2_with fail
                go_loopg [17, 126] S.length (fun g u17 u126 wr => ∃ i : Nat, u126 = .int .i64 (i : Int) ∧ i ≤ S.length ∧ S.length - i ≤ g ∧ u17 = .string (bs (E (tk S f l ax bx i))) ∧ Below W1.heap.size W1 wr)
                case atStart => exact ⟨0, rfl, Nat.zero_le _, by omega, rfl, Below.refl _ _⟩
                case round =>
                  obtain ⟨i, rfl, hi1, hg1, rfl, b2⟩ := hrel
                  by_cases hin : i < S.length
                  · have ii : (i : Int) < (S.length : Int) := Int.ofNat_lt.2 hin
                    obtain ⟨g1, rfl, hg2⟩ := HSC.out.resolve_left (by intro e; rw [e] at hin; simp at hin)
                    have q3 := CK.below b2 _ _ _ (hg2 i hin).1
                    have q4 := CK.below b2 _ _ _ (hg2 i hin).2
                    obtain ⟨x0, x9⟩ := HCOL.out i hin
                    have HTK : Hid (tk S f l ax bx (i + 1) = tk S f l ax bx i ++ (if inM f l ax bx (S[i].1, S[i].2) then [S[i].1] else [])) := tk_succ S f l ax bx i hin
                    have HEL : Hid ((E (tk S f l ax bx i)).length ≤ 16000) := by
                      have h1 := E_le (tk S f l ax bx i)
                      have h2 := tk_len S f l ax bx i
                      have h3 := HSL.out
                      show _ ≤ _
                      omega
                    generalize S[i].1 = r at *
                    generalize S[i].2 = xc at *
                    have l2 := heap_alloc_new wr (.cells #[.int .i32 r, .int .i64 xc] 42)
                    have kA : Below wr.heap.size wr (wr.alloc (.cells #[.int .i32 r, .int .i64 xc] 42)) := (Below.refl _ _).alloc (Nat.le_refl _) _
                    have I3 := (HI1.out.below b2).below kA
                    have b3 := b2.trans (kA.mono b2.size)
                    clear hg2 b2 kA
                    go_upto_region 24 with fail
                    generalize hW2 : wr.alloc (.cells #[.int .i32 r, .int .i64 xc] 42) = W2 at *
                    have HB3 : Hid (Below W1.heap.size W1 W2) := b3
                    have HI3 : Hid (TInv w p q B0 ax ay bx cy u15 (partsM L ax ay bx cy n) W2) := I3
                    have hlt2 : wr.heap.size < W2.heap.size := by rw [← hW2, World.size_alloc]; omega
                    go_cut [158] from 130 to 158 (fun u wx => u = .bool (inM f l ax bx (r, xc)) ∧ Below W2.heap.size W2 wx)
                    case first =>
                      obtain ⟨p0, p1⟩ := cells2 I3.P
                      obtain ⟨q0, q1⟩ := cells2 I3.Q
                      obtain ⟨s0, s1⟩ := cells2 l2
                      have g0 := fun d os => cell_regrown p0 d os
                      have g1 := fun d os => cell_regrown p1 d os
                      have g2 := fun d os => cell_regrown q0 d os
                      have g3 := fun d os => cell_regrown q1 d os
                      have g4 := fun d os => cell_regrown s0 d os
                      have g5 := fun d os => cell_regrown s1 d os
                      have hwd := Txt.wd_range r
                      have HWD := fun V => Txt.widthOf_any r V
                      have HIN : Hid (inM f l ax bx (r, xc) = ((!f || decide (ax ≤ xc + wd r - 1)) && (!l || decide (xc ≤ bx)))) := rfl
                      generalize wd r = z at *
                      have K1 : Hid (∀ d os, Calls Tryd.prog 15 #[.int .i32 r] (grow (redrawn W2 d) os) fun e w'' => e = .returned (.int .i64 z) ∧ ∃ p : Regrown, w'' = grow (redrawn W2 p.d) p.os) := fun d os => Calls.regrown_of (HWD _)
                      have hz3 : IntKind.i64.wrap (xc + z) = xc + z := i64_small (by omega) (by omega)
                      have hz4 : IntKind.i64.wrap (xc + z - 1) = xc + z - 1 := i64_small (by omega) (by omega)
                      have hz1 : wrap64 (xc + z) = xc + z := w64_small (by clear hz3 hz4; omega) (by clear hz3 hz4; omega)
                      have hz2 : wrap64 (xc + z - 1) = xc + z - 1 := w64_small (by clear hz1 hz3 hz4; omega) (by clear hz1 hz3 hz4; omega)
                      clear HWD
                      cases f
                      · have jf : (ay : Int) < (y0 : Int) := by
                          have h1 := HF.out
                          have h2 := HYN.out
                          rw [beq_eq_false_iff_ne] at h1
                          clear hz1 hz2 hz3 hz4
                          omega
                        have jfn : ay < y0 := Int.ofNat_lt.1 jf
                        have jfd : decide ((ay : Int) < (y0 : Int)) = true := decide_eq_true jf
                        have jfe : decide (ay < y0) = true := decide_eq_true jfn
                        cases l
                        · have jl : (y0 : Int) < (cy : Int) := by
                            have h1 := HL.out
                            rw [beq_eq_false_iff_ne] at h1
                            have h2 := HYN.out
                            clear hz1 hz2 hz3 hz4
                            omega
                          have jln : y0 < cy := Int.ofNat_lt.1 jl
                          have jld : decide ((y0 : Int) < (cy : Int)) = true := decide_eq_true jl
                          have jle : decide (y0 < cy) = true := decide_eq_true jln
                          have hh : Hid (true = inM false false ax bx (r, xc)) := by
                            show true = _
                            rw [HIN.out]
                            simp
                          refine wp_region_quiet_below (by kernel_rfl) (by kernel_rfl) ?_
                          repeat (first | go_big_quiet_skip | quiet_step (first | (go_at_call 15; exact K1.out _ _)))
                          refine wpQuiet_nil ?_
                          intro _ hw'
                          obtain ⟨⟨dq, os⟩, hw''⟩ := hw'
                          subst hw''
                          have kR := below_regrown W2 dq os
                          go_wp2_with fail
                          go_meet
                          exact ⟨congrArg Value.bool hh.out, kR⟩
                        · have jl : ¬ (y0 : Int) < (cy : Int) := by
                            have h1 := beq_iff_eq.1 HL.out
                            clear hz1 hz2 hz3 hz4
                            omega
                          have jln : ¬ y0 < cy := fun h => jl (Int.ofNat_lt.2 h)
                          have jld : decide ((y0 : Int) < (cy : Int)) = false := decide_eq_false jl
                          have jle : decide (y0 < cy) = false := decide_eq_false jln
                          have hh : Hid (decide (xc ≤ bx) = inM false true ax bx (r, xc)) := by
                            show decide (xc ≤ bx) = _
                            rw [HIN.out]
                            simp
                          refine wp_region_quiet_below (by kernel_rfl) (by kernel_rfl) ?_
                          repeat (first | go_big_quiet_skip | quiet_step (first | (go_at_call 15; exact K1.out _ _)))
                          refine wpQuiet_nil ?_
                          intro _ hw'
                          obtain ⟨⟨dq, os⟩, hw''⟩ := hw'
                          subst hw''
                          have kR := below_regrown W2 dq os
                          go_wp2_with fail
                          go_meet
                          exact ⟨congrArg Value.bool hh.out, kR⟩
                      · have jf : ¬ (ay : Int) < (y0 : Int) := by
                          have h1 := beq_iff_eq.1 HF.out
                          clear hz1 hz2 hz3 hz4
                          omega
                        have jfn : ¬ ay < y0 := fun h => jf (Int.ofNat_lt.2 h)
                        have jfd : decide ((ay : Int) < (y0 : Int)) = false := decide_eq_false jf
                        have jfe : decide (ay < y0) = false := decide_eq_false jfn
                        by_cases hc : ax ≤ xc + z - 1
                        · have jc : ax ≤ xc + z - 1 := hc
                          have jcd : decide (ax ≤ xc + z - 1) = true := decide_eq_true hc
                          cases l
                          · have jl : (y0 : Int) < (cy : Int) := by
                              have h1 := HL.out
                              rw [beq_eq_false_iff_ne] at h1
                              have h2 := HYN.out
                              clear hz1 hz2 hz3 hz4
                              omega
                            have jln : y0 < cy := Int.ofNat_lt.1 jl
                            have jld : decide ((y0 : Int) < (cy : Int)) = true := decide_eq_true jl
                            have jle : decide (y0 < cy) = true := decide_eq_true jln
                            have hh : Hid (true = inM true false ax bx (r, xc)) := by
                              show true = _
                              rw [HIN.out]
                              rw [jcd]; simp
                            refine wp_region_quiet_below (by kernel_rfl) (by kernel_rfl) ?_
                            repeat (first | go_big_quiet_skip | quiet_step (first | (go_at_call 15; exact K1.out _ _)))
                            refine wpQuiet_nil ?_
                            intro _ hw'
                            obtain ⟨⟨dq, os⟩, hw''⟩ := hw'
                            subst hw''
                            have kR := below_regrown W2 dq os
                            go_wp2_with fail
                            go_meet
                            exact ⟨congrArg Value.bool hh.out, kR⟩
                          · have jl : ¬ (y0 : Int) < (cy : Int) := by
                              have h1 := beq_iff_eq.1 HL.out
                              clear hz1 hz2 hz3 hz4
                              omega
                            have jln : ¬ y0 < cy := fun h => jl (Int.ofNat_lt.2 h)
                            have jld : decide ((y0 : Int) < (cy : Int)) = false := decide_eq_false jl
                            have jle : decide (y0 < cy) = false := decide_eq_false jln
                            have hh : Hid (decide (xc ≤ bx) = inM true true ax bx (r, xc)) := by
                              show decide (xc ≤ bx) = _
                              rw [HIN.out]
                              rw [jcd]; simp
                            refine wp_region_quiet_below (by kernel_rfl) (by kernel_rfl) ?_
                            repeat (first | go_big_quiet_skip | quiet_step (first | (go_at_call 15; exact K1.out _ _)))
                            refine wpQuiet_nil ?_
                            intro _ hw'
                            obtain ⟨⟨dq, os⟩, hw''⟩ := hw'
                            subst hw''
                            have kR := below_regrown W2 dq os
                            go_wp2_with fail
                            go_meet
                            exact ⟨congrArg Value.bool hh.out, kR⟩
                        · have jc : ¬ ax ≤ xc + z - 1 := hc
                          have jcd : decide (ax ≤ xc + z - 1) = false := decide_eq_false hc
                          have hh : Hid (false = inM true l ax bx (r, xc)) := by
                            show false = _
                            rw [HIN.out]
                            rw [jcd]; simp
                          refine wp_region_quiet_below (by kernel_rfl) (by kernel_rfl) ?_
                          repeat (first | go_big_quiet_skip | quiet_step (first | (go_at_call 15; exact K1.out _ _)))
                          refine wpQuiet_nil ?_
                          intro _ hw'
                          obtain ⟨⟨dq, os⟩, hw''⟩ := hw'
                          subst hw''
                          have kR := below_regrown W2 dq os
                          go_wp2_with fail
                          go_meet
                          exact ⟨congrArg Value.bool hh.out, kR⟩
                    case rest =>
                      obtain ⟨rfl, b4⟩ := hcut
                      have hi4 : i < 4000 := Nat.lt_of_lt_of_le hin HSL.out
                      have l4 := kept l2 b4
                      have b5 := HB3.out.trans (b4.mono HB3.out.size)
                      obtain ⟨s0, s1⟩ := cells2 l4
                      cases hm : inM f l ax bx (r, xc)
                      · rw [hm] at HTK
                        go_wp2_with fail
                        go_roundg (S.length - (i + 1))
                        case measure => omega
                        case rel => exact ⟨i + 1, by go_num, by omega, Nat.le_refl _, by rw [HTK.out]; simp, b5⟩
                      · rw [hm] at HTK
                        have HE : Hid (Utf8.encode r = bs (Lib.encodeRune r)) := Txt.encode_eq r
                        have h4 := (Txt.encodeRune_length r).2
                        have hsum : ¬ 9223372036854775807 < (bs (E (tk S f l ax bx i))).size + (Utf8.encode r).size := by
                          have := HEL.out
                          rw [HE.out, Txt.bs_size, Txt.bs_size]
                          omega
                        go_wp2_with fail
                        go_roundg (S.length - (i + 1))
                        case measure => omega
                        case rel => exact ⟨i + 1, by go_num, by omega, Nat.le_refl _, by rw [HTK.out, HE.out, Txt.bs_append]; simp [E], b5⟩
                  · obtain rfl : i = S.length := by omega
                    have ii : ¬ (S.length : Int) < (S.length : Int) := Int.lt_irrefl _
                    have I3 := HI1.out.below b2
                    have HOWN : Hid (wr.ownsRow B0 9 1 u15 (partsM L ax ay bx cy n).length ((partsM L ax ay bx cy n).map Value.string)) := I3.own
                    have HI3 : Hid (TInv w p q B0 ax ay bx cy u15 (partsM L ax ay bx cy n) wr) := I3
                    generalize hpt : bs (E (tk S f l ax bx S.length)) = pt at *
                    clear I3 b2
                    go_wp2_with (first | (at_builtin; refine wpList_append_own _ rfl _ _ 22 rfl B0 9 i0 (.string ByteArray.empty) 1 16 und_st hi hz0 hz1 hz2 rfl (by decide) _ _ _ rfl (HOWN.out.alloc _) ⟨wr.heap.size, 0, none⟩ 1 1 [.string pt] rfl rfl (cell_one_new _ _ _) (by intro u hu; simp at hu; rw [hu]; rfl) (by unfold maxLen; have := HPL.out; have := HYN.out; omega) (by have := HPL.out; have := HYN.out; omega) (by have := HI3.out.hV; simp; omega) ?_; intro v' w2 hown' hgrow hnil))
                    have hI3 := HI3.out.step hgrow hown'
                    have hp := HP.out
                    rw [HPT.out] at hp
                    rw [← hp] at hI3
                    have HI9 : Hid (TInv w p q B0 ax ay bx cy v' (partsM L ax ay bx cy (n + 1)) w2) := hI3
                    clear hI3 hp
                    go_roundg (cy + 1 - (y0 + 1))
                    case measure => omega
                    case rel => exact ⟨n + 1, by rw [show ay + (n + 1) = y0 + 1 by have := HYN.out; omega]; go_num, by have := HYN.out; omega, by have := HYN.out; omega, HI9.out⟩
              · have iy1 : ¬ ((ay + n : Nat) : Int) ≤ (cy : Int) := by omega
                have hI := HI.out
                have hn9 : cy + 1 - ay = n := by omega
                have hr := HM.out
                unfold betM at hr
                rw [hn9] at hr
                have hne : partsM L ax ay bx cy n ≠ [] := by
                  intro e
                  have := congrArg List.length e
                  rw [partsM_len] at this
                  simp at this
                  omega
                have kb9 := hI.kb
                have hj := join_le (partsM L ax ay bx cy n) 16000 (fun s hs => partsM_size hs (fun y => ln_size HLL.out y))
                rw [partsM_len] at hj
                obtain ⟨a5, c5, hv5, hc5, hb5⟩ := hI.own.open
                obtain ⟨g5, o5, rfl, hcells⟩ := hb5.resolve_left hne
                have hg5 : g5 < wr.heap.size := by
                  cases hh : partsM L ax ay bx cy n with
                  | nil => exact absurd hh hne
                  | cons z zs => exact lt_of_cell (hcells 0 z (by rw [hh]; rfl))
                subst hv5
                have HJ := Tryd.strings_Join g5 o5 c5 (partsM L ax ay bx cy n) ⟨#[10]⟩ wr hcells hg5 (by rw [partsM_len]; omega) hc5 (by
                  show (Lib.join _ [10]).length ≤ _
                  omega)
                rw [show (⟨(Lib.join ((partsM L ax ay bx cy n).map (·.data.toList)) (⟨#[10]⟩ : ByteArray).data.toList).toArray⟩ : ByteArray) = M from hr.symm] at HJ
                rw [partsM_len] at *
                clear hcells hI HI hne hr hc5 hb5 hg5
                go_wp2_with fail
                refine HJ.mono ?_
                rintro e W9 ⟨rfl, b9⟩
                have k9 := kb9.trans (b9.mono kb9.size)
                by_cases hs : 4000 < M.size
                · have is : (4000 : Int) < (M.size : Int) := Int.ofNat_lt.2 hs
                  have he : E0 = 10 := by rw [HTE2.out, if_pos hs]
                  have ht : T0 = ⟨#[]⟩ := by rw [HT2.out, he, if_neg (by decide)]
                  subst he ht
                  go_wp2_with fail
                  go_ret
                  exact ⟨rfl, k9⟩
                · have is : ¬ (4000 : Int) < (M.size : Int) := fun h => hs (Int.ofNat_lt.1 h)
                  have he : E0 = 0 := by rw [HTE2.out, if_neg hs]
                  have ht : T0 = M := by rw [HT2.out, he, if_pos rfl]
                  subst he ht
                  go_wp2_with fail
                  go_ret
                  exact ⟨rfl, k9⟩
end Cpy
end Go.Proofs.YtlodmffiengnaaaDoor
