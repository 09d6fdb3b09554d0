/- A first number; a reader in a command. (Written by gen_parsecmd.py.) -/
import Derived.Test.YtmgmdijhiplalaaDoorParseCmd
namespace Go.Proofs.YtmgmdijhiplalaaDoor
open Go.ChangeShapes Go.WideShapes Go.ChangeAt Go.RowKit
namespace Prs
set_option maxHeartbeats 4000000 in
set_option maxRecDepth 100000 in
theorem param_first (x : UInt8) {w0 : World} {R T : Nat} {s : St} {es : List Ev} {W : World} (h : RdE w0 R T s es W) (h0 : s.ps = []) :
    Calls Tryd.prog 81 #[.pointer (some ⟨R, 0, none⟩), .int .u8 (x.toNat : Int)] W fun e W' => e = .returned (.tuple #[]) ∧ RdE w0 R T (param s x) es W' := by
  obtain ⟨N, pv, tv, eqs, h⟩ := h
  have hp := h.p
  rw [h0] at hp
  obtain ⟨a, c, rfl⟩ := row_slice hp
  obtain ⟨c0, c1, c2, c3, c4, c5, c6, c7, cf⟩ := h.cells
  change W.cell? ⟨R, 3, none⟩ = some (.slice a 0 c) at c3
  have HE : Hid (param s x = if isDig x then { s with ps := digit [-1] x } else { s with ps := [-1] ++ [-1] }) := by
    unfold Hid param
    rw [h0, begun_nil]
    rfl
  generalize param s x = res at HE ⊢
  obtain ⟨i0, hi, hzz⟩ := Option.map_eq_some_iff.1 info_int
  simp only [Prod.mk.injEq] at hzz
  obtain ⟨hz0, hz1, hz2⟩ := hzz
  have HH : Hid (Rd w0 R T s es W N (.slice a 0 c) tv eqs) := h
  have hown : W.ownsRow N 3 1 (.slice a 0 c) 0 [] := hp
  have hN1 := h.n1
  have hRl := blk_lt h.r
  have HNE : Hid ((Value.slice a 0 c).ownBlock ≠ some R) := row_ne h.p h.r (by decide)
  have HC3 : Hid (W.heap[R]? = _) := h.r
  have hx8 := x.toNat_lt
  have hl0 : (([] : List Int).length : Int) = 0 := rfl
  clear h hp
  cases hd : isDig x with
  | true =>
    have hdd : 48 ≤ x.toNat ∧ x.toNat ≤ 57 := by simpa [isDig] using hd
    go_enter Tryd.func81, Tryd.ntmps81
    go_wp2_with (at_builtin; refine wpList_append_own _ rfl _ _ 22 rfl N 3 i0 (.int .i64 0) 1 8 und_ints hi hz0 hz1 hz2 rfl (by decide) (.slice a 0 c) 0 [] rfl (hown.alloc _) ⟨W.heap.size, 0, none⟩ 1 1 [.int .i64 (-1)] rfl rfl (cells_of_block (heap_alloc_new W _)) (by intro u hu; simp at hu; rw [hu]; rfl) (by unfold maxLen; omega) (by omega) (by simp; omega) ?_
                 intro v3 W3 hown3 hgrow hnil
                 obtain ⟨g3, c3', rfl⟩ := row_form hown3 (by omega)
                 have hR3 : W3.heap[R]? = some (.cells (rdCells s (.slice a 0 c) T) 46 (0, 0)) := (hgrow.block R (by simp; omega) (fun e => HNE.out e.symm)).trans ((Below.heap_alloc _ _ _ hRl).trans HC3.out)
                 unfold rdCells at hR3
                 obtain ⟨e0, e1, e2, e3, e4, e5, e6, e7, ef⟩ := cells8 hR3
                 have ef3 := ef 3
                 have HZ : Hid (Rd w0 R T { s with ps := [-1] } es (W3.setCell ⟨R, 3, none⟩ (.slice (some ⟨g3, 0, none⟩) (0 + 1) c3')) N (.slice (some ⟨g3, 0, none⟩) (0 + 1) c3') tv eqs) := HH.out.nums ((Below.refl _ _).alloc (Nat.le_refl _) _) [-1] hown3 hgrow
                 obtain ⟨z0, z1, z2, z3, z4, z5, z6, z7, zf⟩ := HZ.out.cells
                 have zc : (W3.setCell ⟨R, 3, none⟩ (.slice (some ⟨g3, 0, none⟩) (0 + 1) c3')).cell? ⟨g3, 0, none⟩ = some (.int .i64 (-1)) := (HZ.out.p.cellAt 0 (by decide)).trans rfl
                 have zz : (W3.setCell ⟨R, 3, none⟩ (.slice (some ⟨g3, 0, none⟩) (0 + 1) c3')).frozen? ⟨g3, 0, none⟩ = false := HZ.out.p.frozenAt 0)
    have HD := isDigit_any x (W3.setCell ⟨R, 3, none⟩ (.slice (some ⟨g3, 0, none⟩) (0 + 1) c3'))
    rw [hd] at HD
    refine HD.mono ?_
    rintro e w1 ⟨rfl, hw1⟩
    rw [hw1]
    clear hw1 w1 HD
    generalize hZ : W3.setCell ⟨R, 3, none⟩ (.slice (some ⟨g3, 0, none⟩) (0 + 1) c3') = Z at *
    clear e0 e1 e2 e3 e4 e5 e6 e7 ef ef3 hZ
    go_wp2_with fail
    go_region
    go_wp2_with fail
    go_end0
    rw [HE.out, if_pos hd]
    exact ⟨rfl, _, _, _, _, (HZ.out.numset 0 _).below ((Below.refl _ _).drew)⟩
  | false =>
    go_enter Tryd.func81, Tryd.ntmps81
    go_wp2_with (at_builtin; refine wpList_append_own _ rfl _ _ 22 rfl N 3 i0 (.int .i64 0) 1 8 und_ints hi hz0 hz1 hz2 rfl (by decide) (.slice a 0 c) 0 [] rfl (hown.alloc _) ⟨W.heap.size, 0, none⟩ 1 1 [.int .i64 (-1)] rfl rfl (cells_of_block (heap_alloc_new W _)) (by intro u hu; simp at hu; rw [hu]; rfl) (by unfold maxLen; omega) (by omega) (by simp; omega) ?_
                 intro v3 W3 hown3 hgrow hnil
                 obtain ⟨g3, c3', rfl⟩ := row_form hown3 (by omega)
                 have hR3 : W3.heap[R]? = some (.cells (rdCells s (.slice a 0 c) T) 46 (0, 0)) := (hgrow.block R (by simp; omega) (fun e => HNE.out e.symm)).trans ((Below.heap_alloc _ _ _ hRl).trans HC3.out)
                 unfold rdCells at hR3
                 obtain ⟨e0, e1, e2, e3, e4, e5, e6, e7, ef⟩ := cells8 hR3
                 have ef3 := ef 3
                 have HZ : Hid (Rd w0 R T { s with ps := [-1] } es (W3.setCell ⟨R, 3, none⟩ (.slice (some ⟨g3, 0, none⟩) (0 + 1) c3')) N (.slice (some ⟨g3, 0, none⟩) (0 + 1) c3') tv eqs) := HH.out.nums ((Below.refl _ _).alloc (Nat.le_refl _) _) [-1] hown3 hgrow
                 obtain ⟨z0, z1, z2, z3, z4, z5, z6, z7, zf⟩ := HZ.out.cells
                 have zc : (W3.setCell ⟨R, 3, none⟩ (.slice (some ⟨g3, 0, none⟩) (0 + 1) c3')).cell? ⟨g3, 0, none⟩ = some (.int .i64 (-1)) := (HZ.out.p.cellAt 0 (by decide)).trans rfl
                 have zz : (W3.setCell ⟨R, 3, none⟩ (.slice (some ⟨g3, 0, none⟩) (0 + 1) c3')).frozen? ⟨g3, 0, none⟩ = false := HZ.out.p.frozenAt 0)
    have HD := isDigit_any x (W3.setCell ⟨R, 3, none⟩ (.slice (some ⟨g3, 0, none⟩) (0 + 1) c3'))
    rw [hd] at HD
    refine HD.mono ?_
    rintro e w1 ⟨rfl, hw1⟩
    rw [hw1]
    clear hw1 w1 HD
    have hown5 := HZ.out.p
    have hn5 := HZ.out.n1
    have HR5 : Hid (_ = _) := HZ.out.r
    have hr5 := blk_lt HZ.out.r
    have HNE5 : Hid ((Value.slice (some ⟨g3, 0, none⟩) (0 + 1) c3').ownBlock ≠ some R) := row_ne HZ.out.p HZ.out.r (by decide)
    generalize hZ : W3.setCell ⟨R, 3, none⟩ (.slice (some ⟨g3, 0, none⟩) (0 + 1) c3') = Z at *
    clear e0 e1 e2 e3 e4 e5 e6 e7 ef ef3 hZ hown
    go_wp2_with (at_builtin; refine wpList_append_own _ rfl _ _ 22 rfl N 3 i0 (.int .i64 0) 1 8 und_ints hi hz0 hz1 hz2 rfl (by decide) (.slice (some ⟨g3, 0, none⟩) 1 c3') 1 [.int .i64 (-1)] rfl (hown5.alloc _) ⟨Z.heap.size, 0, none⟩ 1 1 [.int .i64 (-1)] rfl rfl (cells_of_block (heap_alloc_new Z _)) (by intro u hu; simp at hu; rw [hu]; rfl) (by unfold maxLen; omega) (by omega) (by simp; omega) ?_
                 intro v6 W6 hown6 hgrow6 hnil6
                 obtain ⟨g6, c6', rfl⟩ := row_form hown6 (by omega)
                 have hR6 : W6.heap[R]? = some (.cells (rdCells { s with ps := [-1] } (.slice (some ⟨g3, 0, none⟩) (0 + 1) c3') T) 46 (0, 0)) := (hgrow6.block R (by simp; omega) (fun e => HNE5.out e.symm)).trans ((Below.heap_alloc _ _ _ hr5).trans HR5.out)
                 unfold rdCells at hR6
                 obtain ⟨e0, e1, e2, e3, e4, e5, e6, e7, ef⟩ := cells8 hR6
                 have ef3 := ef 3)
    go_end0
    rw [HE.out, if_neg (by rw [hd]; decide)]
    exact ⟨rfl, _, _, _, _, HZ.out.nums ((Below.refl _ _).alloc (Nat.le_refl _) _) ([-1] ++ [-1]) hown6 hgrow6⟩
theorem param_any (x : UInt8) {w0 : World} {R T : Nat} {s : St} {es : List Ev} {W : World} (h : RdE w0 R T s es W) (h16 : s.ps.length ≤ 16) (hlo : ∀ y, y ∈ s.ps → y ≤ 9999) :
    Calls Tryd.prog 81 #[.pointer (some ⟨R, 0, none⟩), .int .u8 (x.toNat : Int)] W fun e W' => e = .returned (.tuple #[]) ∧ RdE w0 R T (param s x) es W' := by
  by_cases h0 : s.ps = []
  · exact param_first x h h0
  · exact param_more x h h0 h16 hlo
end Prs
end Go.Proofs.YtmgmdijhiplalaaDoor
