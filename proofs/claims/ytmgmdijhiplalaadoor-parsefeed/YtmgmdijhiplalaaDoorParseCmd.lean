/- Numbers, and a reader in a command. -/
import Derived.Test.YtmgmdijhiplalaaDoorParseGround
namespace Go.Proofs.YtmgmdijhiplalaaDoor
open Go.ChangeShapes Go.WideShapes Go.ChangeAt Go.RowKit
namespace Prs
theorem und_ints : Tryd.prog.underlying 22 = some (.slice 3) := by kernel_rfl
theorem info_int : (Tryd.prog.info? 3).map (fun i => (i.zero, i.size, i.bytes)) = some (some (.int .i64 0), 1, 8) := by kernel_rfl
theorem row_slice {w : World} {base : Nat} {e : TypeId} {size : Nat} {v : Value} {n : Nat} {xs : List Value} (h : w.ownsRow base e size v n xs) : ∃ a c, v = .slice a n c := by
  obtain ⟨_, ⟨rfl, rfl⟩ | ⟨q, cap, cur, rfl, _⟩⟩ := h
  · exact ⟨none, 0, rfl⟩
  · exact ⟨_, cap, rfl⟩
/-- A reader's numbers grew: the row is another, perhaps in another block. -/
theorem Rd.nums {w0 : World} {R T : Nat} {s : St} {es : List Ev} {W W2 W3 : World} {N : Nat} {pv tv v3 : Value} {eqs : List (Ev × Value)} (h : Rd w0 R T s es W N pv tv eqs) (hb : Below W.heap.size W W2) (l : List Int)
    (hown3 : W3.ownsRow N 3 1 v3 l.length (ints l)) (hgrow : W2.grownBy W3 pv.ownBlock) : Rd w0 R T { s with ps := l } es (W3.setCell ⟨R, 3, none⟩ v3) N v3 tv eqs := by
  have h2 := h.below hb
  have hW3 : ∀ {e : TypeId} {A : Array Value} {k : Nat}, W2.heap[k]? = some (.cells A e (0, 0)) → 3 ≠ e → W3.heap[k]? = some (.cells A e (0, 0)) := fun {e A k} hk hne => by
    rw [hgrow.block k (blk_lt hk) (fun e1 => row_ne h2.p hk hne e1.symm)]
    exact hk
  have hR3 := hW3 h2.r (by decide)
  have ne : ∀ {base : Nat} {e : TypeId} {size : Nat} {v : Value} {n : Nat} {xs : List Value}, W3.ownsRow base e size v n xs → e ≠ 46 → (W3.setCell ⟨R, 3, none⟩ v3).ownsRow base e size v n xs := fun ho hne => row_same ho fun g hg => by
    obtain ⟨A, hA⟩ := row_block ho hg
    rw [heap_setCell_other]
    intro e1
    simp only at e1
    rw [e1, hR3] at hA
    injection hA with hA
    injection hA with _ hA
    exact hne hA.symm
  have hRT : R ≠ T := by
    intro e
    have h1 := h.r
    rw [e, h.t] at h1
    simp at h1
  refine ⟨?_, h.rb, h.tb, heap_setCell_same W3 R 3 _ _ v3 hR3, ?_, ne hown3 (by decide), ne (h2.e.kept hgrow ?_) (by decide), h.es, fun x hx => ⟨ne ((h2.q x hx).1.kept hgrow ?_) (by decide), (h2.q x hx).2⟩, h.n0, ?_⟩
  · exact (h2.low.grown hgrow h2.low.size (fun k hk => Nat.le_trans h.n0 (h2.p.lt k hk).1)).setCell h.rb _
  · rw [heap_setCell_other _ _ _ _ (Ne.symm hRT)]
    exact hW3 h2.t (by decide)
  · cases ho : tv.ownBlock with
    | none => exact .inl rfl
    | some g =>
      refine .inr fun e1 => ?_
      obtain ⟨A, hA⟩ := row_block h2.e ho
      exact row_ne h2.p hA (by decide) e1.symm
  · cases ho : x.2.ownBlock with
    | none => exact .inl rfl
    | some g =>
      refine .inr fun e1 => ?_
      have a := (h2.q x hx).2 g ho
      have b := (h2.p.lt g e1.symm).1
      omega
  · have := h2.n1
    have h5 := hgrow.size
    simp
    omega
/-- One of a reader's numbers is another. -/
theorem Rd.numset {w0 : World} {R T : Nat} {s : St} {es : List Ev} {W : World} {N g cap : Nat} {tv : Value} {eqs : List (Ev × Value)} (h : Rd w0 R T s es W N (.slice (some ⟨g, 0, none⟩) s.ps.length cap) tv eqs) (j : Nat) (x : Int) :
    Rd w0 R T { s with ps := s.ps.set j x } es (W.setCell ⟨g, j, none⟩ (.int .i64 x)) N (.slice (some ⟨g, 0, none⟩) s.ps.length cap) tv eqs := by
  obtain ⟨A, hA⟩ := row_block h.p rfl
  have hgN : N ≤ g := (h.p.lt g rfl).1
  have hne : ∀ {k : Nat} {B : Array Value} {e : TypeId}, W.heap[k]? = some (.cells B e (0, 0)) → e ≠ 3 → k ≠ g := fun hk he e1 => by
    rw [e1, hA] at hk
    injection hk with hk
    injection hk with _ hk
    exact he hk.symm
  have keep : ∀ {k : Nat}, k ≠ g → (W.setCell ⟨g, j, none⟩ (.int .i64 x)).heap[k]? = W.heap[k]? := fun hk => heap_setCell_other _ _ _ _ hk
  refine ⟨h.low.setCell (Nat.le_trans h.n0 hgN) _, h.rb, h.tb, ?_, ?_, ?_, ?_, h.es, fun y hy => ⟨row_same (h.q y hy).1 fun k hk => keep (by have := (h.q y hy).2 k hk; omega), (h.q y hy).2⟩, h.n0, by simpa using h.n1⟩
  · rw [keep (hne h.r (by decide))]
    exact h.r
  · rw [keep (hne h.t (by decide))]
    exact h.t
  · have this := (h.p.stored j (.int .i64 x)).1
    have e : ints (s.ps.set j x) = (ints s.ps).set j (.int .i64 x) := by simp [ints, List.map_set]
    show (W.setCell ⟨g, j, none⟩ (.int .i64 x)).ownsRow N 3 1 _ (s.ps.set j x).length (ints (s.ps.set j x))
    rw [List.length_set, e]
    exact this
  · refine row_same h.e fun k hk => ?_
    obtain ⟨B, hB⟩ := row_block h.e hk
    exact keep (hne hB (by decide))
theorem begun_nil : begun [] = [-1] := rfl
theorem begun_cons {l : List Int} (h : l ≠ []) : begun l = l := if_neg h
set_option maxHeartbeats 4000000 in
set_option maxRecDepth 100000 in
/-- With a number there. -/
theorem param_more (x : UInt8) {w0 : World} {R T : Nat} {s : St} {es : List Ev} {W : World} (h : RdE w0 R T s es W) (h0 : s.ps ≠ []) (h16 : s.ps.length ≤ 16) (hlo : ∀ y, y ∈ s.ps → y ≤ 9999) :
    Calls Tryd.prog 81 #[.pointer (some ⟨R, 0, none⟩), .int .u8 (x.toNat : Int)] W fun e W' => e = .returned (.tuple #[]) ∧ RdE w0 R T (param s x) es W' := by
  obtain ⟨N, pv, tv, eqs, h⟩ := h
  have hpos : 0 < s.ps.length := List.length_pos_iff.2 h0
  obtain ⟨g, cap, rfl⟩ := row_form h.p hpos
  obtain ⟨c0, c1, c2, c3, c4, c5, c6, c7, cf⟩ := h.cells
  have HE : Hid (param s x = if isDig x then { s with ps := digit s.ps x } else if s.ps.length < 16 then { s with ps := s.ps ++ [-1] } else bare 5) := by
    unfold Hid param
    rw [begun_cons h0]
  generalize param s x = res at HE ⊢
  obtain ⟨L, hL⟩ : ∃ L, s.ps.length = L := ⟨_, rfl⟩
  have hl1 : IntKind.i64.wrap ((L : Int) - 1) = ((L - 1 : Nat) : Int) := by
    rw [IntWalk.i64_in _ ⟨by omega, by omega⟩]
    omega
  have hl2 : (L : Int) - 1 = ((L - 1 : Nat) : Int) := by omega
  have hLp : 0 < L := by omega
  have hL16 : L ≤ 16 := by omega
  have hL0 : ¬ (L : Int) = 0 := by omega
  have bL0 : ((L : Int) == 0) = false := by rw [beq_eq_false_iff_ne]; exact hL0
  have hcell : W.cell? ⟨g, L - 1, none⟩ = some (.int .i64 (s.ps.getD (L - 1) 0)) := by
    have := h.p.cellAt (L - 1) (by omega)
    rw [this]
    have hlt : L - 1 < s.ps.length := by omega
    simp [ints, List.getD, List.getElem?_eq_getElem hlt]
  have hfroz : W.frozen? ⟨g, L - 1, none⟩ = false := h.p.frozenAt (L - 1)
  have HD := isDigit_any x W
  have hx8 := x.toNat_lt
  cases hd : isDig x with
  | true =>
    rw [hd] at HD
    have hdd : 48 ≤ x.toNat ∧ x.toNat ≤ 57 := by simpa [isDig] using hd
    have HH : Hid (Rd w0 R T s es W N (.slice (some ⟨g, 0, none⟩) s.ps.length cap) tv eqs) := h
    have hy : s.ps.getD (L - 1) 0 ≤ 9999 := by
      have hlt : L - 1 < s.ps.length := by omega
      have : s.ps.getD (L - 1) 0 = s.ps[L - 1] := by simp [List.getD, hlt]
      rw [this]
      exact hlo _ (List.getElem_mem hlt)
    rw [hL] at c3
    clear h
    obtain ⟨y, hyy⟩ : ∃ y, s.ps.getD (L - 1) 0 = y := ⟨_, rfl⟩
    rw [hyy] at hcell hy
    have HY : Hid (s.ps.getD (L - 1) 0 = y) := hyy
    have HL : Hid (s.ps.length = L) := hL
    clear hyy hL
    go_enter Tryd.func81, Tryd.ntmps81
    go_wp2_with fail
    refine HD.mono ?_
    rintro e w1 ⟨rfl, hw1⟩
    rw [hw1]
    clear hw1 w1
    go_wp2_with fail
    go_region
    go_wp2_with fail
    go_end0
    rw [HE.out, if_pos hd]
    unfold digit
    rw [HL.out, HY.out]
    exact ⟨rfl, _, _, _, _, (HH.out.numset (L - 1) _).below ((Below.refl _ _).drew)⟩
  | false =>
    rw [hd] at HD
    obtain ⟨i0, hi, hzz⟩ := Option.map_eq_some_iff.1 info_int
    simp only [Prod.mk.injEq] at hzz
    obtain ⟨hz0, hz1, hz2⟩ := hzz
    have HL : Hid (s.ps.length = L) := hL
    by_cases h15 : L < 16
    · have h15' : (L : Int) < 16 := by omega
      have HH : Hid (Rd w0 R T s es W N (.slice (some ⟨g, 0, none⟩) s.ps.length cap) tv eqs) := h
      have hown := h.p
      have hN1 := h.n1
      have hRl := blk_lt h.r
      have HNE : Hid (g ≠ R) := fun e => row_ne h.p h.r (by decide) (by rw [← e]; rfl)
      have HC3 : Hid (W.heap[R]? = _) := h.r
      rw [hL] at c3 hown
      clear h hL
      go_enter Tryd.func81, Tryd.ntmps81
      go_wp2_with fail
      refine HD.mono ?_
      rintro e w1 ⟨rfl, hw1⟩
      rw [hw1]
      clear hw1 w1
      go_wp2_with (at_builtin; refine wpList_append_own _ rfl _ _ 22 rfl N 3 i0 (.int .i64 0) 1 8 und_ints hi hz0 hz1 hz2 rfl (by decide) (.slice (some ⟨g, 0, none⟩) L cap) L (ints s.ps) rfl (hown.alloc _) ⟨W.heap.size, 0, none⟩ 1 1 [.int .i64 (-1)] rfl rfl (cells_of_block (heap_alloc_new W _)) (by intro u hu; simp at hu; rw [hu]; rfl) (by unfold maxLen; omega) (by omega) (by simp; omega) ?_
                   intro v3 W3 hown3 hgrow hnil
                   obtain ⟨g3, c3', rfl⟩ := row_form hown3 (by omega)
                   have hR3 : W3.heap[R]? = some (.cells (rdCells s (.slice (some ⟨g, 0, none⟩) s.ps.length cap) T) 46 (0, 0)) := (hgrow.block R (by simp; omega) (fun e => by simp [Value.ownBlock] at e; exact HNE.out e.symm)).trans ((Below.heap_alloc _ _ _ hRl).trans HC3.out)
                   unfold rdCells at hR3
                   obtain ⟨e0, e1, e2, e3, e4, e5, e6, e7, ef⟩ := cells8 hR3
                   have ef3 := ef 3)
      go_end0
      rw [HE.out, if_neg (by rw [hd]; decide), if_pos (by rw [HL.out]; exact h15)]
      have hown4 : W3.ownsRow N 3 1 (.slice (some ⟨g3, 0, none⟩) (L + 1) c3') (s.ps ++ [-1]).length (ints (s.ps ++ [-1])) := by
        have e1 : ints (s.ps ++ [-1]) = ints s.ps ++ [.int .i64 (-1)] := by simp [ints]
        rw [List.length_append, HL.out, e1]
        exact hown3
      exact ⟨rfl, _, _, _, _, HH.out.nums ((Below.refl _ _).alloc (Nat.le_refl _) _) (s.ps ++ [-1]) hown4 (by have := hgrow; simpa [Value.ownBlock] using this)⟩
    · have h15' : ¬ (L : Int) < 16 := by omega
      have HX := enter_any 5 h
      rw [hL] at c3
      clear h hL
      go_enter Tryd.func81, Tryd.ntmps81
      go_wp2_with fail
      refine HD.mono ?_
      rintro e w1 ⟨rfl, hw1⟩
      rw [hw1]
      clear hw1 w1
      go_wp2_with fail
      refine HX.mono ?_
      rintro e W1 ⟨rfl, -, h1⟩
      go_wp2_with fail
      go_end0
      rw [HE.out, if_neg (by rw [hd]; decide), if_neg (by rw [HL.out]; exact h15)]
      exact ⟨rfl, _, _, _, _, h1⟩
end Prs
end Go.Proofs.YtmgmdijhiplalaaDoor
