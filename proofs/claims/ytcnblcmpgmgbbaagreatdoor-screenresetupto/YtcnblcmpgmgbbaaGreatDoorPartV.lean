/- Parts of the proof, shortened by a program. -/
import Derived.Test.YtcnblcmpgmgbbaaGreatDoorPartK
import Derived.Test.YtcnblcmpgmgbbaaGreatDoorPartH
import Derived.Deep.MidRow
import Derived.Lib.ValidLaws
import Derived.Lib.MapLaws
import Derived.Lib.TrimUEq
import Derived.Deep.RegionWith
namespace Go.Proofs.YtcnblcmpgmgbbaaGreatDoor
set_option linter.unusedVariables false
set_option linter.unusedSimpArgs false
set_option maxRecDepth 100000
open Go.ChangeShapes Go.WideShapes Go.ChangeAt Go.RowKit
namespace Prs
theorem qag : Tryz.prog.underlying 33 = some (.slice 3) := by kernel_rfl
theorem qfd : (Tryz.prog.info? 3).map (fun i => (i.zero, i.size, i.bytes)) = some (some (.int .i64 0), 1, 8) := by kernel_rfl
theorem K9 {w : World} {base : Nat} {e : TypeId} {size : Nat} {v : Value} {n : Nat} {xs : List Value} (h : w.ownsRow base e size v n xs) : ∃ a c, v = .slice a n c := by
 obtain ⟨_, ⟨rfl, rfl⟩ | ⟨q, cap, cur, rfl, _⟩⟩ := h
 ·exact ⟨none, 0, rfl⟩
 ·exact ⟨_, cap, rfl⟩
theorem Rd.nums {w0 : World} {R T : Nat} {s : St} {es : List Ev} {W W2 W3 : World} {N : Nat} {pv tv v3 : Value} {eqs : List (Ev × Value)} (h : Rd w0 R T s es W N pv tv eqs) (hb : Below W.heap.size W W2) (l : List Int)
  (hown3 : W3.ownsRow N 3 1 v3 l.length (ints l)) (hgrow : W2.grownBy W3 pv.ownBlock) : Rd w0 R T { s with ps := l } es (W3.setCell ⟨R, 3, none⟩ v3) N v3 tv eqs := by
 have h2 := h.below hb
 have hW3 : ∀ {e : TypeId} {A : Array Value} {k : Nat}, W2.heap[k]? = some (.cells A e (0, 0)) → 3 ≠ e → W3.heap[k]? = some (.cells A e (0, 0)) := fun {e A k} hk hne => by
  rw [hgrow.block k (Xf hk) (fun e1 => qaf h2.p hk hne e1.symm)]
  exact hk
 have hR3 := hW3 h2.r (by decide)
 have ne : ∀ {base : Nat} {e : TypeId} {size : Nat} {v : Value} {n : Nat} {xs : List Value}, W3.ownsRow base e size v n xs → e ≠ 77 → (W3.setCell ⟨R, 3, none⟩ v3).ownsRow base e size v n xs := fun ho hne => Jd ho fun g hg => by
  obtain ⟨A, hA⟩ := Xx ho hg
  rw [heap_setCell_other]
  intro e1
  simp only at e1
  rw [e1, hR3] at hA
  injection hA with hA
  injection hA with _ hA
  exact hne hA.symm
 have hRT : R ≠ T := by
  intro e
  have h1 := h.r
  rw [e, h.t] at h1
  simp at h1
 refine ⟨?_, h.rb, h.tb, heap_setCell_same W3 R 3 _ _ v3 hR3, ?_, ne hown3 (by decide), ne (h2.e.kept hgrow ?_) (by decide), h.es, fun x hx => ⟨ne ((h2.q x hx).1.kept hgrow ?_) (by decide), (h2.q x hx).2⟩, h.n0, ?_⟩
 ·exact (h2.low.grown hgrow h2.low.size (fun k hk => Nat.le_trans h.n0 (h2.p.lt k hk).1)).setCell h.rb _
 ·rw [heap_setCell_other _ _ _ _ (Ne.symm hRT)]
  exact hW3 h2.t (by decide)
 ·cases ho : tv.ownBlock with
  | none => exact .inl rfl
  | some g =>
   refine .inr fun e1 => ?_
   obtain ⟨A, hA⟩ := Xx h2.e ho
   exact qaf h2.p hA (by decide) e1.symm
 ·cases ho : x.2.ownBlock with
  | none => exact .inl rfl
  | some g =>
   refine .inr fun e1 => ?_
   have a := (h2.q x hx).2 g ho
   have b := (h2.p.lt g e1.symm).1
   omega
 ·have := h2.n1
  have h5 := hgrow.size
  simp
  omega
theorem Rd.qwr {w0 : World} {R T : Nat} {s : St} {es : List Ev} {W : World} {N g cap : Nat} {tv : Value} {eqs : List (Ev × Value)} (h : Rd w0 R T s es W N (.slice (some ⟨g, 0, none⟩) s.ps.length cap) tv eqs) (j : Nat) (x : Int) :
  Rd w0 R T { s with ps := s.ps.set j x } es (W.setCell ⟨g, j, none⟩ (.int .i64 x)) N (.slice (some ⟨g, 0, none⟩) s.ps.length cap) tv eqs := by
 obtain ⟨A, hA⟩ := Xx h.p rfl
 have hgN : N ≤ g := (h.p.lt g rfl).1
 have hne : ∀ {k : Nat} {B : Array Value} {e : TypeId}, W.heap[k]? = some (.cells B e (0, 0)) → e ≠ 3 → k ≠ g := fun hk he e1 => by
  rw [e1, hA] at hk
  injection hk with hk
  injection hk with _ hk
  exact he hk.symm
 have keep : ∀ {k : Nat}, k ≠ g → (W.setCell ⟨g, j, none⟩ (.int .i64 x)).heap[k]? = W.heap[k]? := fun hk => heap_setCell_other _ _ _ _ hk
 refine ⟨h.low.setCell (Nat.le_trans h.n0 hgN) _, h.rb, h.tb, ?_, ?_, ?_, ?_, h.es, fun y hy => ⟨Jd (h.q y hy).1 fun k hk => keep (by have := (h.q y hy).2 k hk; omega), (h.q y hy).2⟩, h.n0, by simpa using h.n1⟩
 ·rw [keep (hne h.r (by decide))]
  exact h.r
 ·rw [keep (hne h.t (by decide))]
  exact h.t
 ·have this := (h.p.stored j (.int .i64 x)).1
  have e : ints (s.ps.set j x) = (ints s.ps).set j (.int .i64 x) := by simp [ints, List.map_set]
  show (W.setCell ⟨g, j, none⟩ (.int .i64 x)).ownsRow N 3 1 _ (s.ps.set j x).length (ints (s.ps.set j x))
  rw [List.length_set, e]
  exact this
 ·refine Jd h.e fun k hk => ?_
  obtain ⟨B, hB⟩ := Xx h.e hk
  exact keep (hne hB (by decide))
theorem qu6 : begun [] = [-1] := rfl
theorem qqo {l : List Int} (h : l ≠ []) : begun l = l := if_neg h
set_option maxHeartbeats 4000000 in
theorem qqs (x : UInt8) {w0 : World} {R T : Nat} {s : St} {es : List Ev} {W : World} (h : RdE w0 R T s es W) (h0 : s.ps ≠ []) (h16 : s.ps.length ≤ 16) (hlo : ∀ y, y ∈ s.ps → y ≤ 9999) :
  Calls Tryz.prog 127 #[.pointer (some ⟨R, 0, none⟩), .int .u8 (x.toNat : Int)] W fun e W' => e = .returned (.tuple #[]) ∧ RdE w0 R T (Kl s x) es W' := by
 obtain ⟨N, pv, tv, eqs, h⟩ := h
 have hpos : 0 < s.ps.length := List.length_pos_iff.2 h0
 obtain ⟨g, cap, rfl⟩ := Uw h.p hpos
 obtain ⟨c0, c1, c2, c3, c4, c5, c6, c7, cf⟩ := h.cells
 have HE : Hid (Kl s x = if Ja x then { s with ps := digit s.ps x } else if s.ps.length < 16 then { s with ps := s.ps ++ [-1] } else bare 5) := by
  unfold Hid Kl
  rw [qqo h0]
 generalize Kl s x = res at HE ⊢
 obtain ⟨L, hL⟩ : ∃ L, s.ps.length = L := ⟨_, rfl⟩
 have hl1 : IntKind.i64.wrap ((L : Int) - 1) = ((L - 1 : Nat) : Int) := by
  rw [IntWalk.i64_in _ ⟨by omega, by omega⟩]
  omega
 have hl2 : (L : Int) - 1 = ((L - 1 : Nat) : Int) := by omega
 have hLp : 0 < L := by omega
 have hL16 : L ≤ 16 := by omega
 have hL0 : ¬ (L : Int) = 0 := by omega
 have bL0 : ((L : Int) == 0) = false := by rw [beq_eq_false_iff_ne]; exact hL0
 have hcell : W.cell? ⟨g, L - 1, none⟩ = some (.int .i64 (s.ps.getD (L - 1) 0)) := by
  have := h.p.cellAt (L - 1) (by omega)
  rw [this]
  have hlt : L - 1 < s.ps.length := by omega
  simp [ints, List.getD, List.getElem?_eq_getElem hlt]
 have hfroz : W.frozen? ⟨g, L - 1, none⟩ = false := h.p.frozenAt (L - 1)
 have HD := Uf x W
 have hx8 := x.toNat_lt
 cases hd : Ja x with
 | true =>
  rw [hd] at HD
  have hdd : 48 ≤ x.toNat ∧ x.toNat ≤ 57 := by simpa [Ja] using hd
  have HH : Hid (Rd w0 R T s es W N (.slice (some ⟨g, 0, none⟩) s.ps.length cap) tv eqs) := h
  have hy : s.ps.getD (L - 1) 0 ≤ 9999 := by
   have hlt : L - 1 < s.ps.length := by omega
   have : s.ps.getD (L - 1) 0 = s.ps[L - 1] := by simp [List.getD, hlt]
   rw [this]
   exact hlo _ (List.getElem_mem hlt)
  rw [hL] at c3
  clear h
  obtain ⟨y, hyy⟩ : ∃ y, s.ps.getD (L - 1) 0 = y := ⟨_, rfl⟩
  rw [hyy] at hcell hy
  have HY : Hid (s.ps.getD (L - 1) 0 = y) := hyy
  have HL : Hid (s.ps.length = L) := hL
  clear hyy hL
  go_enter Tryz.func127, Tryz.ntmps127
  go_wp2_with fail
  refine HD.mono ?_
  rintro e w1 ⟨rfl, hw1⟩
  rw [hw1]
  clear hw1 w1
  go_wp2_with fail
  go_region
  go_wp2_with fail
  go_end0
  rw [HE.out, if_pos hd]
  unfold digit
  rw [HL.out, HY.out]
  exact ⟨rfl, _, _, _, _, (HH.out.qwr (L - 1) _).below ((Below.refl _ _).drew)⟩
 | false =>
  rw [hd] at HD
  obtain ⟨i0, hi, hzz⟩ := Option.map_eq_some_iff.1 qfd
  simp only [Prod.mk.injEq] at hzz
  obtain ⟨hz0, hz1, hz2⟩ := hzz
  have HL : Hid (s.ps.length = L) := hL
  by_cases h15 : L < 16
  ·have h15' : (L : Int) < 16 := by omega
   have HH : Hid (Rd w0 R T s es W N (.slice (some ⟨g, 0, none⟩) s.ps.length cap) tv eqs) := h
   have hown := h.p
   have hN1 := h.n1
   have hRl := Xf h.r
   have HNE : Hid (g ≠ R) := fun e => qaf h.p h.r (by decide) (by rw [← e]; rfl)
   have HC3 : Hid (W.heap[R]? = _) := h.r
   rw [hL] at c3 hown
   clear h hL
   go_enter Tryz.func127, Tryz.ntmps127
   go_wp2_with fail
   refine HD.mono ?_
   rintro e w1 ⟨rfl, hw1⟩
   rw [hw1]
   clear hw1 w1
   go_wp2_with (at_builtin; refine wpList_append_own _ rfl _ _ 33 rfl N 3 i0 (.int .i64 0) 1 8 qag hi hz0 hz1 hz2 rfl (by decide) (.slice (some ⟨g, 0, none⟩) L cap) L (ints s.ps) rfl (hown.alloc _) ⟨W.heap.size, 0, none⟩ 1 1 [.int .i64 (-1)] rfl rfl (cells_of_block (heap_alloc_new W _)) (by intro u hu; simp at hu; rw [hu]; rfl) (by unfold maxLen; omega) (by omega) (by simp; omega) ?_
                intro v3 W3 hown3 hgrow hnil
                obtain ⟨g3, c3', rfl⟩ := Uw hown3 (by omega)
                have hR3 : W3.heap[R]? = some (.cells (Yx s (.slice (some ⟨g, 0, none⟩) s.ps.length cap) T) 77 (0, 0)) := (hgrow.block R (by simp; omega) (fun e => by simp [Value.ownBlock] at e; exact HNE.out e.symm)).trans ((Below.heap_alloc _ _ _ hRl).trans HC3.out)
                unfold Yx at hR3
                obtain ⟨e0, e1, e2, e3, e4, e5, e6, e7, ef⟩ := qal hR3
                have ef3 := ef 3)
   go_end0
   rw [HE.out, if_neg (by rw [hd]; decide), if_pos (by rw [HL.out]; exact h15)]
   have hown4 : W3.ownsRow N 3 1 (.slice (some ⟨g3, 0, none⟩) (L + 1) c3') (s.ps ++ [-1]).length (ints (s.ps ++ [-1])) := by
    have e1 : ints (s.ps ++ [-1]) = ints s.ps ++ [.int .i64 (-1)] := by simp [ints]
    rw [List.length_append, HL.out, e1]
    exact hown3
   exact ⟨rfl, _, _, _, _, HH.out.nums ((Below.refl _ _).alloc (Nat.le_refl _) _) (s.ps ++ [-1]) hown4 (by have := hgrow; simpa [Value.ownBlock] using this)⟩
  ·have h15' : ¬ (L : Int) < 16 := by omega
   have HX := Z6 5 h
   rw [hL] at c3
   clear h hL
   go_enter Tryz.func127, Tryz.ntmps127
   go_wp2_with fail
   refine HD.mono ?_
   rintro e w1 ⟨rfl, hw1⟩
   rw [hw1]
   clear hw1 w1
   go_wp2_with fail
   refine HX.mono ?_
   rintro e W1 ⟨rfl, -, h1⟩
   go_wp2_with fail
   go_end0
   rw [HE.out, if_neg (by rw [hd]; decide), if_neg (by rw [HL.out]; exact h15)]
   exact ⟨rfl, _, _, _, _, h1⟩
set_option maxHeartbeats 4000000 in
theorem qlu (x : UInt8) {w0 : World} {R T : Nat} {s : St} {es : List Ev} {W : World} (h : RdE w0 R T s es W) (h0 : s.ps = []) :
  Calls Tryz.prog 127 #[.pointer (some ⟨R, 0, none⟩), .int .u8 (x.toNat : Int)] W fun e W' => e = .returned (.tuple #[]) ∧ RdE w0 R T (Kl s x) es W' := by
 obtain ⟨N, pv, tv, eqs, h⟩ := h
 have hp := h.p
 rw [h0] at hp
 obtain ⟨a, c, rfl⟩ := K9 hp
 obtain ⟨c0, c1, c2, c3, c4, c5, c6, c7, cf⟩ := h.cells
 change W.cell? ⟨R, 3, none⟩ = some (.slice a 0 c) at c3
 have HE : Hid (Kl s x = if Ja x then { s with ps := digit [-1] x } else { s with ps := [-1] ++ [-1] }) := by
  unfold Hid Kl
  rw [h0, qu6]
  rfl
 generalize Kl s x = res at HE ⊢
 obtain ⟨i0, hi, hzz⟩ := Option.map_eq_some_iff.1 qfd
 simp only [Prod.mk.injEq] at hzz
 obtain ⟨hz0, hz1, hz2⟩ := hzz
 have HH : Hid (Rd w0 R T s es W N (.slice a 0 c) tv eqs) := h
 have hown : W.ownsRow N 3 1 (.slice a 0 c) 0 [] := hp
 have hN1 := h.n1
 have hRl := Xf h.r
 have HNE : Hid ((Value.slice a 0 c).ownBlock ≠ some R) := qaf h.p h.r (by decide)
 have HC3 : Hid (W.heap[R]? = _) := h.r
 have hx8 := x.toNat_lt
 have hl0 : (([] : List Int).length : Int) = 0 := rfl
 clear h hp
 cases hd : Ja x with
 | true =>
  have hdd : 48 ≤ x.toNat ∧ x.toNat ≤ 57 := by simpa [Ja] using hd
  go_enter Tryz.func127, Tryz.ntmps127
  go_wp2_with (at_builtin; refine wpList_append_own _ rfl _ _ 33 rfl N 3 i0 (.int .i64 0) 1 8 qag hi hz0 hz1 hz2 rfl (by decide) (.slice a 0 c) 0 [] rfl (hown.alloc _) ⟨W.heap.size, 0, none⟩ 1 1 [.int .i64 (-1)] rfl rfl (cells_of_block (heap_alloc_new W _)) (by intro u hu; simp at hu; rw [hu]; rfl) (by unfold maxLen; omega) (by omega) (by simp; omega) ?_
               intro v3 W3 hown3 hgrow hnil
               obtain ⟨g3, c3', rfl⟩ := Uw hown3 (by omega)
               have hR3 : W3.heap[R]? = some (.cells (Yx s (.slice a 0 c) T) 77 (0, 0)) := (hgrow.block R (by simp; omega) (fun e => HNE.out e.symm)).trans ((Below.heap_alloc _ _ _ hRl).trans HC3.out)
               unfold Yx at hR3
               obtain ⟨e0, e1, e2, e3, e4, e5, e6, e7, ef⟩ := qal hR3
               have ef3 := ef 3
               have HZ : Hid (Rd w0 R T { s with ps := [-1] } es (W3.setCell ⟨R, 3, none⟩ (.slice (some ⟨g3, 0, none⟩) (0 + 1) c3')) N (.slice (some ⟨g3, 0, none⟩) (0 + 1) c3') tv eqs) := HH.out.nums ((Below.refl _ _).alloc (Nat.le_refl _) _) [-1] hown3 hgrow
               obtain ⟨z0, z1, z2, z3, z4, z5, z6, z7, zf⟩ := HZ.out.cells
               have zc : (W3.setCell ⟨R, 3, none⟩ (.slice (some ⟨g3, 0, none⟩) (0 + 1) c3')).cell? ⟨g3, 0, none⟩ = some (.int .i64 (-1)) := (HZ.out.p.cellAt 0 (by decide)).trans rfl
               have zz : (W3.setCell ⟨R, 3, none⟩ (.slice (some ⟨g3, 0, none⟩) (0 + 1) c3')).frozen? ⟨g3, 0, none⟩ = false := HZ.out.p.frozenAt 0)
  have HD := Uf x (W3.setCell ⟨R, 3, none⟩ (.slice (some ⟨g3, 0, none⟩) (0 + 1) c3'))
  rw [hd] at HD
  refine HD.mono ?_
  rintro e w1 ⟨rfl, hw1⟩
  rw [hw1]
  clear hw1 w1 HD
  generalize hZ : W3.setCell ⟨R, 3, none⟩ (.slice (some ⟨g3, 0, none⟩) (0 + 1) c3') = Z at *
  clear e0 e1 e2 e3 e4 e5 e6 e7 ef ef3 hZ
  go_wp2_with fail
  go_region
  go_wp2_with fail
  go_end0
  rw [HE.out, if_pos hd]
  exact ⟨rfl, _, _, _, _, (HZ.out.qwr 0 _).below ((Below.refl _ _).drew)⟩
 | false =>
  go_enter Tryz.func127, Tryz.ntmps127
  go_wp2_with (at_builtin; refine wpList_append_own _ rfl _ _ 33 rfl N 3 i0 (.int .i64 0) 1 8 qag hi hz0 hz1 hz2 rfl (by decide) (.slice a 0 c) 0 [] rfl (hown.alloc _) ⟨W.heap.size, 0, none⟩ 1 1 [.int .i64 (-1)] rfl rfl (cells_of_block (heap_alloc_new W _)) (by intro u hu; simp at hu; rw [hu]; rfl) (by unfold maxLen; omega) (by omega) (by simp; omega) ?_
               intro v3 W3 hown3 hgrow hnil
               obtain ⟨g3, c3', rfl⟩ := Uw hown3 (by omega)
               have hR3 : W3.heap[R]? = some (.cells (Yx s (.slice a 0 c) T) 77 (0, 0)) := (hgrow.block R (by simp; omega) (fun e => HNE.out e.symm)).trans ((Below.heap_alloc _ _ _ hRl).trans HC3.out)
               unfold Yx at hR3
               obtain ⟨e0, e1, e2, e3, e4, e5, e6, e7, ef⟩ := qal hR3
               have ef3 := ef 3
               have HZ : Hid (Rd w0 R T { s with ps := [-1] } es (W3.setCell ⟨R, 3, none⟩ (.slice (some ⟨g3, 0, none⟩) (0 + 1) c3')) N (.slice (some ⟨g3, 0, none⟩) (0 + 1) c3') tv eqs) := HH.out.nums ((Below.refl _ _).alloc (Nat.le_refl _) _) [-1] hown3 hgrow
               obtain ⟨z0, z1, z2, z3, z4, z5, z6, z7, zf⟩ := HZ.out.cells
               have zc : (W3.setCell ⟨R, 3, none⟩ (.slice (some ⟨g3, 0, none⟩) (0 + 1) c3')).cell? ⟨g3, 0, none⟩ = some (.int .i64 (-1)) := (HZ.out.p.cellAt 0 (by decide)).trans rfl
               have zz : (W3.setCell ⟨R, 3, none⟩ (.slice (some ⟨g3, 0, none⟩) (0 + 1) c3')).frozen? ⟨g3, 0, none⟩ = false := HZ.out.p.frozenAt 0)
  have HD := Uf x (W3.setCell ⟨R, 3, none⟩ (.slice (some ⟨g3, 0, none⟩) (0 + 1) c3'))
  rw [hd] at HD
  refine HD.mono ?_
  rintro e w1 ⟨rfl, hw1⟩
  rw [hw1]
  clear hw1 w1 HD
  have hown5 := HZ.out.p
  have hn5 := HZ.out.n1
  have HR5 : Hid (_ = _) := HZ.out.r
  have hr5 := Xf HZ.out.r
  have HNE5 : Hid ((Value.slice (some ⟨g3, 0, none⟩) (0 + 1) c3').ownBlock ≠ some R) := qaf HZ.out.p HZ.out.r (by decide)
  generalize hZ : W3.setCell ⟨R, 3, none⟩ (.slice (some ⟨g3, 0, none⟩) (0 + 1) c3') = Z at *
  clear e0 e1 e2 e3 e4 e5 e6 e7 ef ef3 hZ hown
  go_wp2_with (at_builtin; refine wpList_append_own _ rfl _ _ 33 rfl N 3 i0 (.int .i64 0) 1 8 qag hi hz0 hz1 hz2 rfl (by decide) (.slice (some ⟨g3, 0, none⟩) 1 c3') 1 [.int .i64 (-1)] rfl (hown5.alloc _) ⟨Z.heap.size, 0, none⟩ 1 1 [.int .i64 (-1)] rfl rfl (cells_of_block (heap_alloc_new Z _)) (by intro u hu; simp at hu; rw [hu]; rfl) (by unfold maxLen; omega) (by omega) (by simp; omega) ?_
               intro v6 W6 hown6 hgrow6 hnil6
               obtain ⟨g6, c6', rfl⟩ := Uw hown6 (by omega)
               have hR6 : W6.heap[R]? = some (.cells (Yx { s with ps := [-1] } (.slice (some ⟨g3, 0, none⟩) (0 + 1) c3') T) 77 (0, 0)) := (hgrow6.block R (by simp; omega) (fun e => HNE5.out e.symm)).trans ((Below.heap_alloc _ _ _ hr5).trans HR5.out)
               unfold Yx at hR6
               obtain ⟨e0, e1, e2, e3, e4, e5, e6, e7, ef⟩ := qal hR6
               have ef3 := ef 3)
  go_end0
  rw [HE.out, if_neg (by rw [hd]; decide)]
  exact ⟨rfl, _, _, _, _, HZ.out.nums ((Below.refl _ _).alloc (Nat.le_refl _) _) ([-1] ++ [-1]) hown6 hgrow6⟩
theorem Vk (x : UInt8) {w0 : World} {R T : Nat} {s : St} {es : List Ev} {W : World} (h : RdE w0 R T s es W) (h16 : s.ps.length ≤ 16) (hlo : ∀ y, y ∈ s.ps → y ≤ 9999) :
  Calls Tryz.prog 127 #[.pointer (some ⟨R, 0, none⟩), .int .u8 (x.toNat : Int)] W fun e W' => e = .returned (.tuple #[]) ∧ RdE w0 R T (Kl s x) es W' := by
 by_cases h0 : s.ps = []
 ·exact qlu x h h0
 ·exact qqs x h h0 h16 hlo
theorem qg6 {w : World} {base base' : Nat} {e : TypeId} {size : Nat} {v : Value} {n : Nat} {xs : List Value} (h : w.ownsRow base e size v n xs) (hb : base' ≤ base) : w.ownsRow base' e size v n xs := by
 refine ⟨h.1, ?_⟩
 rcases h.2 with h2 | ⟨g, cap, cur, hv, hg, r⟩
 ·exact .inl h2
 ·exact .inr ⟨g, cap, cur, hv, Nat.le_trans hb hg, r⟩
set_option maxHeartbeats 8000000 in
theorem qhp (x : UInt8) {w0 : World} {R T : Nat} {s : St} {es : List Ev} {W : World} (h : RdE w0 R T s es W) (hn : es.length ≤ 1000000) (h16 : s.ps.length ≤ 16) (hlo : ∀ y, y ∈ s.ps → y ≤ 9999) :
  Calls Tryz.prog 86 #[.pointer (some ⟨R, 0, none⟩), .int .u8 (x.toNat : Int)] W fun e W' => e = .returned (.tuple #[]) ∧ RdE w0 R T (J2 s x).1 (es ++ (J2 s x).2) W' := by
 have HP := Vk x h h16 hlo
 obtain ⟨N, pv, tv, eqs, h⟩ := h
 obtain ⟨c0, c1, c2, c3, c4, c5, c6, c7, cf⟩ := h.cells
 obtain ⟨pa, pc, rfl⟩ := K9 h.p
 have cf1 := cf 1
 have HE : Hid (J2 s x = if (Ja x = true ∨ x.toNat = 59) ∧ s.mid.size = 0 then (Kl s x, []) else if Z8 x.toNat = true ∧ s.mark = 0 ∧ s.ps = [] ∧ s.mid.size = 0 then ({ s with mark := x.toNat }, []) else if Zv x = true ∧ s.mid.size < 2 then ({ s with mid := s.mid ++ one x }, []) else if 128 ≤ x.toNat then (bare 0, []) else if 64 ≤ x.toNat then (bare 0, [⟨4, 0, x.toNat, s.mark, s.mid, s.ps, nt⟩]) else (bare 5, [])) := rfl
 generalize J2 s x = res at HE ⊢
 have hx8 := x.toNat_lt
 have iD : Ja x = true ↔ 48 ≤ x.toNat ∧ x.toNat ≤ 57 := by simp [Ja]
 have iM : Zv x = true ↔ 32 ≤ x.toNat ∧ x.toNat ≤ 47 := by simp [Zv]
 have iK : Z8 x.toNat = true ↔ 60 ≤ x.toNat ∧ x.toNat ≤ 63 := by simp [Z8]; omega
 have HD := Uf x W
 have HM := Ky x W
 have HK := Gl x.toNat W
 have he := qds s.mid
 have HX0 := Z6 0 h
 have HX5 := Z6 5 h
 have HI : Hid ((Ja x = true ↔ 48 ≤ x.toNat ∧ x.toNat ≤ 57) ∧ (Zv x = true ↔ 32 ≤ x.toNat ∧ x.toNat ≤ 47) ∧ (Z8 x.toNat = true ↔ 60 ≤ x.toNat ∧ x.toNat ≤ 63)) := ⟨iD, iM, iK⟩
 by_cases d1 : 48 ≤ x.toNat ∧ x.toNat ≤ 57
 ·by_cases z0 : s.mid.size = 0
  ·skip
   have hD : Ja x = true := by rw [HI.out.1]; omega
   have hM : Zv x = false := by rw [← Bool.not_eq_true, HI.out.2.1]; omega
   have hK : Z8 x.toNat = false := by rw [← Bool.not_eq_true, HI.out.2.2]; omega
   rw [hD] at HD
   rw [hM] at HM
   rw [hK] at HK
   have hm0 : (s.mid.toList == []) = true := by rw [he, decide_eq_true_eq]; exact z0
   clear h
   clear HI
   go_enter Tryz.func86, Tryz.ntmps86
   go_wp2_with fail
   refine HD.mono ?_
   rintro e w1 ⟨rfl, hw1⟩
   rw [hw1]
   clear hw1 w1
   go_wp2_with fail
   refine HP.mono ?_
   rintro e W1 ⟨rfl, h1⟩
   go_wp2_with fail
   go_end0
   rw [HE.out, if_pos ⟨.inl hD, z0⟩]
   exact ⟨rfl, by rw [List.append_nil]; exact h1⟩
  ·skip
   have hD : Ja x = true := by rw [HI.out.1]; omega
   have hM : Zv x = false := by rw [← Bool.not_eq_true, HI.out.2.1]; omega
   have hK : Z8 x.toNat = false := by rw [← Bool.not_eq_true, HI.out.2.2]; omega
   rw [hD] at HD
   rw [hM] at HM
   rw [hK] at HK
   have hm0 : (s.mid.toList == []) = false := by rw [he, decide_eq_false_iff_not]; exact z0
   have y128 : ¬ (128 : Int) ≤ (x.toNat : Int) := by omega
   have y64 : ¬ (64 : Int) ≤ (x.toNat : Int) := by omega
   clear h
   clear HI
   go_enter Tryz.func86, Tryz.ntmps86
   go_wp2_with fail
   refine HD.mono ?_
   rintro e w1 ⟨rfl, hw1⟩
   rw [hw1]
   clear hw1 w1
   go_wp2_with fail
   refine HK.mono ?_
   rintro e w1 ⟨rfl, hw1⟩
   rw [hw1]
   clear hw1 w1
   go_wp2_with fail
   refine HM.mono ?_
   rintro e w1 ⟨rfl, hw1⟩
   rw [hw1]
   clear hw1 w1
   go_wp2_with fail
   refine HX5.mono ?_
   rintro e W1 ⟨rfl, -, h1⟩
   go_wp2_with fail
   go_end0
   rw [HE.out, if_neg (fun q => z0 q.2), if_neg (by rw [hK]; simp), if_neg (by rw [hM]; simp), if_neg (by omega), if_neg (by omega)]
   exact ⟨rfl, _, _, _, _, by rw [List.append_nil]; exact h1⟩
 ·by_cases d2 : x.toNat = 59
  ·by_cases z0 : s.mid.size = 0
   ·skip
    have hD : Ja x = false := by rw [← Bool.not_eq_true, HI.out.1]; omega
    have hM : Zv x = false := by rw [← Bool.not_eq_true, HI.out.2.1]; omega
    have hK : Z8 x.toNat = false := by rw [← Bool.not_eq_true, HI.out.2.2]; omega
    rw [hD] at HD
    rw [hM] at HM
    rw [hK] at HK
    have hm0 : (s.mid.toList == []) = true := by rw [he, decide_eq_true_eq]; exact z0
    have b59 : ((x.toNat : Int) == 59) = true := by rw [beq_iff_eq]; omega
    have D2 : Hid (x.toNat = 59) := d2
    clear d1 d2
    clear h
    clear HI
    go_enter Tryz.func86, Tryz.ntmps86
    go_wp2_with fail
    refine HD.mono ?_
    rintro e w1 ⟨rfl, hw1⟩
    rw [hw1]
    clear hw1 w1
    go_wp2_with fail
    refine HP.mono ?_
    rintro e W1 ⟨rfl, h1⟩
    go_wp2_with fail
    go_end0
    rw [HE.out, if_pos ⟨.inr D2.out, z0⟩]
    exact ⟨rfl, by rw [List.append_nil]; exact h1⟩
   ·skip
    have hD : Ja x = false := by rw [← Bool.not_eq_true, HI.out.1]; omega
    have hM : Zv x = false := by rw [← Bool.not_eq_true, HI.out.2.1]; omega
    have hK : Z8 x.toNat = false := by rw [← Bool.not_eq_true, HI.out.2.2]; omega
    rw [hD] at HD
    rw [hM] at HM
    rw [hK] at HK
    have hm0 : (s.mid.toList == []) = false := by rw [he, decide_eq_false_iff_not]; exact z0
    have b59 : ((x.toNat : Int) == 59) = true := by rw [beq_iff_eq]; omega
    have y128 : ¬ (128 : Int) ≤ (x.toNat : Int) := by omega
    have y64 : ¬ (64 : Int) ≤ (x.toNat : Int) := by omega
    have D2 : Hid (x.toNat = 59) := d2
    clear d1 d2
    clear h
    clear HI
    go_enter Tryz.func86, Tryz.ntmps86
    go_wp2_with fail
    refine HD.mono ?_
    rintro e w1 ⟨rfl, hw1⟩
    rw [hw1]
    clear hw1 w1
    go_wp2_with fail
    refine HK.mono ?_
    rintro e w1 ⟨rfl, hw1⟩
    rw [hw1]
    clear hw1 w1
    go_wp2_with fail
    refine HM.mono ?_
    rintro e w1 ⟨rfl, hw1⟩
    rw [hw1]
    clear hw1 w1
    go_wp2_with fail
    refine HX5.mono ?_
    rintro e W1 ⟨rfl, -, h1⟩
    go_wp2_with fail
    go_end0
    rw [HE.out, if_neg (fun q => z0 q.2), if_neg (by rw [hK]; simp), if_neg (by rw [hM]; simp), if_neg (by have := D2.out; omega), if_neg (by have := D2.out; omega)]
    exact ⟨rfl, _, _, _, _, by rw [List.append_nil]; exact h1⟩
  ·have y59 : ¬ (x.toNat : Int) = 59 := by omega
   have b59 : ((x.toNat : Int) == 59) = false := by rw [beq_eq_false_iff_ne]; exact y59
   by_cases d3 : 60 ≤ x.toNat ∧ x.toNat ≤ 63
   ·by_cases k0 : s.mark = 0
    ·by_cases p0 : s.ps = []
     ·by_cases z0 : s.mid.size = 0
      ·skip
       have hD : Ja x = false := by rw [← Bool.not_eq_true, HI.out.1]; omega
       have hM : Zv x = false := by rw [← Bool.not_eq_true, HI.out.2.1]; omega
       have hK : Z8 x.toNat = true := by rw [HI.out.2.2]; omega
       rw [hD] at HD
       rw [hM] at HM
       rw [hK] at HK
       have hm0 : (s.mid.toList == []) = true := by rw [he, decide_eq_true_eq]; exact z0
       have HF : Hid (Rd w0 R T { s with mark := (x.toNat : Int) } es (W.setCell ⟨R, 1, none⟩ (.int .u8 (x.toNat : Int))) N (.slice pa s.ps.length pc) tv eqs) := h.marks x.toNat
       have hp0 : (s.ps.length : Int) = 0 := by rw [p0]; rfl
       have bk0 : (s.mark == 0) = true := by rw [beq_iff_eq]; exact k0
       have P0 : Hid (s.ps = []) := p0
       have K0 : Hid (s.mark = 0) := k0
       clear p0 k0
       clear h
       clear HI
       go_enter Tryz.func86, Tryz.ntmps86
       go_wp2_with fail
       refine HD.mono ?_
       rintro e w1 ⟨rfl, hw1⟩
       rw [hw1]
       clear hw1 w1
       go_wp2_with fail
       refine HK.mono ?_
       rintro e w1 ⟨rfl, hw1⟩
       rw [hw1]
       clear hw1 w1
       go_wp2_with fail
       go_end0
       rw [HE.out, if_neg (by rw [hD]; simp; omega), if_pos ⟨hK, K0.out, P0.out, z0⟩]
       exact ⟨rfl, _, _, _, _, by rw [List.append_nil]; exact HF.out⟩
      ·skip
       have hD : Ja x = false := by rw [← Bool.not_eq_true, HI.out.1]; omega
       have hM : Zv x = false := by rw [← Bool.not_eq_true, HI.out.2.1]; omega
       have hK : Z8 x.toNat = true := by rw [HI.out.2.2]; omega
       rw [hD] at HD
       rw [hM] at HM
       rw [hK] at HK
       have hm0 : (s.mid.toList == []) = false := by rw [he, decide_eq_false_iff_not]; exact z0
       have y128 : ¬ (128 : Int) ≤ (x.toNat : Int) := by omega
       have y64 : ¬ (64 : Int) ≤ (x.toNat : Int) := by omega
       have hp0 : (s.ps.length : Int) = 0 := by rw [p0]; rfl
       have bk0 : (s.mark == 0) = true := by rw [beq_iff_eq]; exact k0
       clear p0 k0
       clear h
       clear HI
       go_enter Tryz.func86, Tryz.ntmps86
       go_wp2_with fail
       refine HD.mono ?_
       rintro e w1 ⟨rfl, hw1⟩
       rw [hw1]
       clear hw1 w1
       go_wp2_with fail
       refine HK.mono ?_
       rintro e w1 ⟨rfl, hw1⟩
       rw [hw1]
       clear hw1 w1
       go_wp2_with fail
       refine HM.mono ?_
       rintro e w1 ⟨rfl, hw1⟩
       rw [hw1]
       clear hw1 w1
       go_wp2_with fail
       refine HX5.mono ?_
       rintro e W1 ⟨rfl, -, h1⟩
       go_wp2_with fail
       go_end0
       rw [HE.out, if_neg (by rw [hD]; simp; omega), if_neg (fun q => z0 q.2.2.2), if_neg (by rw [hM]; simp), if_neg (by omega), if_neg (by omega)]
       exact ⟨rfl, _, _, _, _, by rw [List.append_nil]; exact h1⟩
     ·skip
      have hD : Ja x = false := by rw [← Bool.not_eq_true, HI.out.1]; omega
      have hM : Zv x = false := by rw [← Bool.not_eq_true, HI.out.2.1]; omega
      have hK : Z8 x.toNat = true := by rw [HI.out.2.2]; omega
      rw [hD] at HD
      rw [hM] at HM
      rw [hK] at HK
      have y128 : ¬ (128 : Int) ≤ (x.toNat : Int) := by omega
      have y64 : ¬ (64 : Int) ≤ (x.toNat : Int) := by omega
      have hp0 : ¬ (s.ps.length : Int) = 0 := fun q => p0 (List.length_eq_zero_iff.1 (by omega))
      have bp0 : ((s.ps.length : Int) == 0) = false := by rw [beq_eq_false_iff_ne]; exact hp0
      have bk0 : (s.mark == 0) = true := by rw [beq_iff_eq]; exact k0
      have P0 : Hid (s.ps ≠ []) := p0
      clear p0 k0
      clear h
      clear HI
      go_enter Tryz.func86, Tryz.ntmps86
      go_wp2_with fail
      refine HD.mono ?_
      rintro e w1 ⟨rfl, hw1⟩
      rw [hw1]
      clear hw1 w1
      go_wp2_with fail
      refine HK.mono ?_
      rintro e w1 ⟨rfl, hw1⟩
      rw [hw1]
      clear hw1 w1
      go_wp2_with fail
      refine HM.mono ?_
      rintro e w1 ⟨rfl, hw1⟩
      rw [hw1]
      clear hw1 w1
      go_wp2_with fail
      refine HX5.mono ?_
      rintro e W1 ⟨rfl, -, h1⟩
      go_wp2_with fail
      go_end0
      rw [HE.out, if_neg (by rw [hD]; simp; omega), if_neg (fun q => P0.out q.2.2.1), if_neg (by rw [hM]; simp), if_neg (by omega), if_neg (by omega)]
      exact ⟨rfl, _, _, _, _, by rw [List.append_nil]; exact h1⟩
    ·skip
     have hD : Ja x = false := by rw [← Bool.not_eq_true, HI.out.1]; omega
     have hM : Zv x = false := by rw [← Bool.not_eq_true, HI.out.2.1]; omega
     have hK : Z8 x.toNat = true := by rw [HI.out.2.2]; omega
     rw [hD] at HD
     rw [hM] at HM
     rw [hK] at HK
     have y128 : ¬ (128 : Int) ≤ (x.toNat : Int) := by omega
     have y64 : ¬ (64 : Int) ≤ (x.toNat : Int) := by omega
     have bk0 : (s.mark == 0) = false := by rw [beq_eq_false_iff_ne]; exact k0
     clear h
     clear HI
     go_enter Tryz.func86, Tryz.ntmps86
     go_wp2_with fail
     refine HD.mono ?_
     rintro e w1 ⟨rfl, hw1⟩
     rw [hw1]
     clear hw1 w1
     go_wp2_with fail
     refine HK.mono ?_
     rintro e w1 ⟨rfl, hw1⟩
     rw [hw1]
     clear hw1 w1
     go_wp2_with fail
     refine HM.mono ?_
     rintro e w1 ⟨rfl, hw1⟩
     rw [hw1]
     clear hw1 w1
     go_wp2_with fail
     refine HX5.mono ?_
     rintro e W1 ⟨rfl, -, h1⟩
     go_wp2_with fail
     go_end0
     rw [HE.out, if_neg (by rw [hD]; simp; omega), if_neg (fun q => k0 q.2.1), if_neg (by rw [hM]; simp), if_neg (by omega), if_neg (by omega)]
     exact ⟨rfl, _, _, _, _, by rw [List.append_nil]; exact h1⟩
   ·by_cases d4 : 32 ≤ x.toNat ∧ x.toNat ≤ 47
    ·by_cases z2 : s.mid.size < 2
     ·skip
      have hD : Ja x = false := by rw [← Bool.not_eq_true, HI.out.1]; omega
      have hM : Zv x = true := by rw [HI.out.2.1]; omega
      have hK : Z8 x.toNat = false := by rw [← Bool.not_eq_true, HI.out.2.2]; omega
      rw [hD] at HD
      rw [hM] at HM
      rw [hK] at HK
      have z2i : (s.mid.size : Int) < 2 := by omega
      have hsz : ¬ 9223372036854775807 < s.mid.size + (one x).size := by show ¬ _ < s.mid.size + 1; omega
      have kd : Below W.heap.size W W.drew := (Below.refl _ _).drew
      have HH : Hid (Rd w0 R T s es W.drew N (.slice pa s.ps.length pc) tv eqs) := h.below kd
      clear h
      clear HI
      go_enter Tryz.func86, Tryz.ntmps86
      go_wp2_with fail
      refine HD.mono ?_
      rintro e w1 ⟨rfl, hw1⟩
      rw [hw1]
      clear hw1 w1
      go_wp2_with fail
      refine HK.mono ?_
      rintro e w1 ⟨rfl, hw1⟩
      rw [hw1]
      clear hw1 w1
      go_wp2_with fail
      refine HM.mono ?_
      rintro e w1 ⟨rfl, hw1⟩
      rw [hw1]
      clear hw1 w1
      go_wp2_with fail
      go_region_with (go_at_call 123; refine (Gw x _).mono ?_; rintro e W1 ⟨rfl, b1⟩; obtain ⟨d0, d1, d2, d3, d4, d5, d6, d7, df⟩ := (HH.out.below b1).cells; have df2 := df 2)
      all_goals go_wp2_with fail
      all_goals go_end0
      all_goals rw [HE.out, if_neg (by rw [hD]; simp; omega), if_neg (by rw [hK]; simp), if_pos ⟨hM, z2⟩]
      all_goals exact ⟨rfl, _, _, _, _, by rw [List.append_nil]; exact (HH.out.below b1).mids (s.mid ++ one x)⟩
     ·skip
      have hD : Ja x = false := by rw [← Bool.not_eq_true, HI.out.1]; omega
      have hM : Zv x = true := by rw [HI.out.2.1]; omega
      have hK : Z8 x.toNat = false := by rw [← Bool.not_eq_true, HI.out.2.2]; omega
      rw [hD] at HD
      rw [hM] at HM
      rw [hK] at HK
      have z2i : ¬ (s.mid.size : Int) < 2 := by omega
      have y128 : ¬ (128 : Int) ≤ (x.toNat : Int) := by omega
      have y64 : ¬ (64 : Int) ≤ (x.toNat : Int) := by omega
      clear h
      clear HI
      go_enter Tryz.func86, Tryz.ntmps86
      go_wp2_with fail
      refine HD.mono ?_
      rintro e w1 ⟨rfl, hw1⟩
      rw [hw1]
      clear hw1 w1
      go_wp2_with fail
      refine HK.mono ?_
      rintro e w1 ⟨rfl, hw1⟩
      rw [hw1]
      clear hw1 w1
      go_wp2_with fail
      refine HM.mono ?_
      rintro e w1 ⟨rfl, hw1⟩
      rw [hw1]
      clear hw1 w1
      go_wp2_with fail
      refine HX5.mono ?_
      rintro e W1 ⟨rfl, -, h1⟩
      go_wp2_with fail
      go_end0
      rw [HE.out, if_neg (by rw [hD]; simp; omega), if_neg (by rw [hK]; simp), if_neg (fun q => z2 q.2), if_neg (by omega), if_neg (by omega)]
      exact ⟨rfl, _, _, _, _, by rw [List.append_nil]; exact h1⟩
    ·by_cases d5 : 128 ≤ x.toNat
     ·skip
      have hD : Ja x = false := by rw [← Bool.not_eq_true, HI.out.1]; omega
      have hM : Zv x = false := by rw [← Bool.not_eq_true, HI.out.2.1]; omega
      have hK : Z8 x.toNat = false := by rw [← Bool.not_eq_true, HI.out.2.2]; omega
      rw [hD] at HD
      rw [hM] at HM
      rw [hK] at HK
      have y128 : (128 : Int) ≤ (x.toNat : Int) := by omega
      clear h
      clear HI
      go_enter Tryz.func86, Tryz.ntmps86
      go_wp2_with fail
      refine HD.mono ?_
      rintro e w1 ⟨rfl, hw1⟩
      rw [hw1]
      clear hw1 w1
      go_wp2_with fail
      refine HK.mono ?_
      rintro e w1 ⟨rfl, hw1⟩
      rw [hw1]
      clear hw1 w1
      go_wp2_with fail
      refine HM.mono ?_
      rintro e w1 ⟨rfl, hw1⟩
      rw [hw1]
      clear hw1 w1
      go_wp2_with fail
      refine HX0.mono ?_
      rintro e W1 ⟨rfl, -, h1⟩
      go_wp2_with fail
      go_end0
      rw [HE.out, if_neg (by rw [hD]; simp; omega), if_neg (by rw [hK]; simp), if_neg (by rw [hM]; simp), if_pos d5]
      exact ⟨rfl, _, _, _, _, by rw [List.append_nil]; exact h1⟩
     ·have y128 : ¬ (128 : Int) ≤ (x.toNat : Int) := by omega
      by_cases d6 : 64 ≤ x.toNat
      ·skip
       have hD : Ja x = false := by rw [← Bool.not_eq_true, HI.out.1]; omega
       have hM : Zv x = false := by rw [← Bool.not_eq_true, HI.out.2.1]; omega
       have hK : Z8 x.toNat = false := by rw [← Bool.not_eq_true, HI.out.2.2]; omega
       rw [hD] at HD
       rw [hM] at HM
       rw [hK] at HK
       have y64 : (64 : Int) ≤ (x.toNat : Int) := by omega
       have kd : Below W.heap.size W W.drew := (Below.refl _ _).drew
       have HEN := qcl (h.below kd) ⟨4, 0, x.toNat, s.mark, s.mid, s.ps, nt⟩ (.slice pa s.ps.length pc) (qg6 (h.below kd).p h.n0) rfl hn
       have HEN2 : Hid (Calls Tryz.prog 125 #[.pointer (some ⟨R, 0, none⟩), .agg #[.int .i64 4, .int .i32 0, .int .u8 (x.toNat : Int), .int .u8 s.mark, .string s.mid, .slice pa s.ps.length pc, .string ⟨#[]⟩]] W.drew fun e W' => e = .returned (.tuple #[]) ∧ RdE w0 R T (bare 0) (es ++ [⟨4, 0, x.toNat, s.mark, s.mid, s.ps, nt⟩]) W') := HEN
       clear HEN
       clear h
       clear HI
       go_enter Tryz.func86, Tryz.ntmps86
       go_wp2_with fail
       refine HD.mono ?_
       rintro e w1 ⟨rfl, hw1⟩
       rw [hw1]
       clear hw1 w1
       go_wp2_with fail
       refine HK.mono ?_
       rintro e w1 ⟨rfl, hw1⟩
       rw [hw1]
       clear hw1 w1
       go_wp2_with fail
       refine HM.mono ?_
       rintro e w1 ⟨rfl, hw1⟩
       rw [hw1]
       clear hw1 w1
       go_wp2_with fail
       go_region_with (go_at_call 125; refine HEN2.out.mono ?_; rintro e W1 ⟨rfl, h1⟩)
       all_goals go_wp2_with fail
       all_goals go_end0
       all_goals rw [HE.out, if_neg (by rw [hD]; simp; omega), if_neg (by rw [hK]; simp), if_neg (by rw [hM]; simp), if_neg d5, if_pos d6]
       all_goals exact ⟨rfl, h1⟩
      ·skip
       have hD : Ja x = false := by rw [← Bool.not_eq_true, HI.out.1]; omega
       have hM : Zv x = false := by rw [← Bool.not_eq_true, HI.out.2.1]; omega
       have hK : Z8 x.toNat = false := by rw [← Bool.not_eq_true, HI.out.2.2]; omega
       rw [hD] at HD
       rw [hM] at HM
       rw [hK] at HK
       have y64 : ¬ (64 : Int) ≤ (x.toNat : Int) := by omega
       clear h
       clear HI
       go_enter Tryz.func86, Tryz.ntmps86
       go_wp2_with fail
       refine HD.mono ?_
       rintro e w1 ⟨rfl, hw1⟩
       rw [hw1]
       clear hw1 w1
       go_wp2_with fail
       refine HK.mono ?_
       rintro e w1 ⟨rfl, hw1⟩
       rw [hw1]
       clear hw1 w1
       go_wp2_with fail
       refine HM.mono ?_
       rintro e w1 ⟨rfl, hw1⟩
       rw [hw1]
       clear hw1 w1
       go_wp2_with fail
       refine HX5.mono ?_
       rintro e W1 ⟨rfl, -, h1⟩
       go_wp2_with fail
       go_end0
       rw [HE.out, if_neg (by rw [hD]; simp; omega), if_neg (by rw [hK]; simp), if_neg (by rw [hM]; simp), if_neg d5, if_neg d6]
       exact ⟨rfl, _, _, _, _, by rw [List.append_nil]; exact h1⟩
set_option maxHeartbeats 1000000 in
theorem Kq (w : World) : Calls Tryz.prog 54 #[] w fun e w' => e = .returned (.agg #[.func (.func 83) #[] #[], .func (.func 84) #[] #[], .func (.func 85) #[] #[], .func (.func 86) #[] #[], .func (.func 87) #[] #[], .func (.func 88) #[] #[]]) ∧ Below w.heap.size w w' := by
 go_enter Tryz.func54, Tryz.ntmps54
 go_wp2_with (refine wpList_store_row rfl 103 (.tmp 0) _ rfl w.heap.size #[.func (.func 83) #[] #[], .func (.func 84) #[] #[], .func (.func 85) #[] #[], .func (.func 86) #[] #[], .func (.func 87) #[] #[], .func (.func 88) #[] #[]] rfl rfl _ _ (heap_alloc_new w _) (by kernel_rfl) rfl (by simp [Value.oneCell']) ?_)
 (try simp only [Exit.inBlock, Exit.then])
 refine bodyPost_ret (v := .agg #[.func (.func 83) #[] #[], .func (.func 84) #[] #[], .func (.func 85) #[] #[], .func (.func 86) #[] #[], .func (.func 87) #[] #[], .func (.func 88) #[] #[]]) ?_ rfl ⟨rfl, below_setRow ((Below.refl _ _).alloc (Nat.le_refl _) _) (Nat.le_refl _) _⟩
 exact results_cell_row rfl _ _ w.heap.size _ _ _ _ rfl (setRow_heap _ _ _ _ _ _ (heap_alloc_new w _)) Tryz.underlying103 rfl (by kernel_rfl)
theorem Uy : Tryz.prog.underlying 103 = some (.array 6 102) := by kernel_rfl
theorem idx0 (w : World) : (Instr.index 103 (.agg #[.func (.func 83) #[] #[], .func (.func 84) #[] #[], .func (.func 85) #[] #[], .func (.func 86) #[] #[], .func (.func 87) #[] #[], .func (.func 88) #[] #[]]) (.int .i64 0)).run Tryz.prog w = .ok (.func (.func 83) #[] #[]) w := by
 simp [Instr.index, run_underlying Uy, asIntOf, go_sem]
theorem idx1 (w : World) : (Instr.index 103 (.agg #[.func (.func 83) #[] #[], .func (.func 84) #[] #[], .func (.func 85) #[] #[], .func (.func 86) #[] #[], .func (.func 87) #[] #[], .func (.func 88) #[] #[]]) (.int .i64 1)).run Tryz.prog w = .ok (.func (.func 84) #[] #[]) w := by
 simp [Instr.index, run_underlying Uy, asIntOf, go_sem]
theorem idx2 (w : World) : (Instr.index 103 (.agg #[.func (.func 83) #[] #[], .func (.func 84) #[] #[], .func (.func 85) #[] #[], .func (.func 86) #[] #[], .func (.func 87) #[] #[], .func (.func 88) #[] #[]]) (.int .i64 2)).run Tryz.prog w = .ok (.func (.func 85) #[] #[]) w := by
 simp [Instr.index, run_underlying Uy, asIntOf, go_sem]
theorem idx3 (w : World) : (Instr.index 103 (.agg #[.func (.func 83) #[] #[], .func (.func 84) #[] #[], .func (.func 85) #[] #[], .func (.func 86) #[] #[], .func (.func 87) #[] #[], .func (.func 88) #[] #[]]) (.int .i64 3)).run Tryz.prog w = .ok (.func (.func 86) #[] #[]) w := by
 simp [Instr.index, run_underlying Uy, asIntOf, go_sem]
theorem idx4 (w : World) : (Instr.index 103 (.agg #[.func (.func 83) #[] #[], .func (.func 84) #[] #[], .func (.func 85) #[] #[], .func (.func 86) #[] #[], .func (.func 87) #[] #[], .func (.func 88) #[] #[]]) (.int .i64 4)).run Tryz.prog w = .ok (.func (.func 87) #[] #[]) w := by
 simp [Instr.index, run_underlying Uy, asIntOf, go_sem]
theorem idx5 (w : World) : (Instr.index 103 (.agg #[.func (.func 83) #[] #[], .func (.func 84) #[] #[], .func (.func 85) #[] #[], .func (.func 86) #[] #[], .func (.func 87) #[] #[], .func (.func 88) #[] #[]]) (.int .i64 5)).run Tryz.prog w = .ok (.func (.func 88) #[] #[]) w := by
 simp [Instr.index, run_underlying Uy, asIntOf, go_sem]
def Fit (s : St) : Prop := 0 ≤ s.at' ∧ s.at' ≤ 5 ∧ (s.late = true → s.at' = 4) ∧ s.ps.length ≤ 16 ∧ ∀ y, y ∈ s.ps → y ≤ 9999
end Prs
end Go.Proofs.YtcnblcmpgmgbbaaGreatDoor
