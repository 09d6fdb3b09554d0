/- copyOf: a state that shares nothing. -/
import Derived.Test.YtmgmdijhiplalaaDoorParseTake
namespace Go.Proofs.YtmgmdijhiplalaaDoor
open Go.ChangeShapes Go.WideShapes Go.ChangeAt Go.RowKit
namespace Prs
theorem clone_any (s : ByteArray) (w : World) (hlim : s.size ≤ 281474976710656) : Calls Tryd.prog 37 #[.string s] w fun e w' => e = .returned (.string s) ∧ Below w.heap.size w w' := by
  have HC := Tryd.stringslite_Clone s w hlim
  go_enter Tryd.func37, Tryd.ntmps37
  go_wp2_with fail
  refine HC.mono ?_
  rintro e W1 ⟨rfl, b1⟩
  go_wp2_with fail
  go_ret
  exact ⟨rfl, b1⟩
/-- Numbers that can be read. -/
def IntsV (w : World) (v : Value) (l : List Int) : Prop := (l = [] ∧ ∃ p c, v = .slice p 0 c) ∨ ∃ b o c, v = .slice (some ⟨b, o, none⟩) l.length c ∧ ∀ j u, (ints l)[j]? = some u → w.cell? ((⟨b, o, none⟩ : Addr).add j) = some u
theorem keep2 {W : World} {B : Nat} {a b c d e f g : Value} {t : TypeId} (h : W.heap[B]? = some (.cells #[a, b, c, d, e, f, g] t (0, 0))) : (W.setCell ⟨B, 2, none⟩ c).heap[B]? = some (.cells #[a, b, c, d, e, f, g] t (0, 0)) := heap_setCell_same W B 2 _ _ c h
theorem keep4 {W : World} {B : Nat} {a b c d e f g : Value} {t : TypeId} (h : W.heap[B]? = some (.cells #[a, b, c, d, e, f, g] t (0, 0))) : (W.setCell ⟨B, 4, none⟩ e).heap[B]? = some (.cells #[a, b, c, d, e, f, g] t (0, 0)) := heap_setCell_same W B 4 _ _ e h
theorem keep5 {W : World} {B : Nat} {a b c d e f g : Value} {t : TypeId} (h : W.heap[B]? = some (.cells #[a, b, c, d, e, f, g] t (0, 0))) : (W.setCell ⟨B, 5, none⟩ f).heap[B]? = some (.cells #[a, b, c, d, e, f, g] t (0, 0)) := heap_setCell_same W B 5 _ _ f h
theorem below_put {B0 : Nat} {w W : World} (h : Below B0 w W) {B i : Nat} (hB : B0 ≤ B) (v : Value) : Below B0 w (W.setCell ⟨B, i, none⟩ v) := h.setCell hB v
theorem stay {W W1 : World} {k : Nat} {o : Obj} (h : W.heap[k]? = some o) (hb : Below W.heap.size W W1) : W1.heap[k]? = some o := by
  rw [hb.block k (blk_lt h)]
  exact h
theorem own_put {X : World} {base B : Nat} {v u : Value} {n : Nat} {xs : List Value} {A cs : Array Value} {i : Nat} (h : X.ownsRow base 3 1 v n xs) (hA : X.heap[B]? = some (.cells A 24 (0, 0))) {A2 : Array Value} (hA2 : X.heap[B + 1]? = some (.cells A2 24 (0, 0))) : ((X.setCell ⟨B, i, none⟩ u).setRow (B + 1) cs).ownsRow base 3 1 v n xs :=
  row_same h fun g hg => by
    obtain ⟨D, hD⟩ := row_block h hg
    have n1 : g ≠ B := fun e => by
      rw [e, hA] at hD
      injection hD with hD
      injection hD with _ hD
      exact absurd hD (by decide)
    have n2 : g ≠ B + 1 := fun e => by
      rw [e, hA2] at hD
      injection hD with hD
      injection hD with _ hD
      exact absurd hD (by decide)
    rw [setRow_other _ _ _ _ n2, heap_setCell_other _ _ _ _ n1]
set_option maxHeartbeats 4000000 in
set_option maxRecDepth 100000 in
theorem copyOf_any (s : St) (pv : Value) (w : World) (hI : IntsV w pv s.ps) (h16 : s.ps.length ≤ 16) (hm : s.mid.size ≤ 1000) (ht : s.txt.size ≤ 1000) (hl : s.left.size ≤ 1000) :
    Calls Tryd.prog 17 #[.agg #[.int .i64 s.at', .int .u8 s.mark, .string s.mid, pv, .string s.txt, .string s.left, .bool s.late]] w fun e w' => ∃ pv', e = .returned (.agg #[.int .i64 s.at', .int .u8 s.mark, .string s.mid, pv', .string s.txt, .string s.left, .bool s.late]) ∧ w'.ownsRow w.heap.size 3 1 pv' s.ps.length (ints s.ps) ∧ Below w.heap.size w w' := by
  obtain ⟨B, hB⟩ : ∃ B, w.heap.size = B := ⟨_, rfl⟩
  have x0 : ((w.alloc (.cells #[.int .i64 s.at', .int .u8 s.mark, .string s.mid, pv, .string s.txt, .string s.left, .bool s.late] 24)).alloc (.cells #[.int .i64 0, .int .u8 0, .string ⟨#[]⟩, .slice none 0 0, .string ⟨#[]⟩, .string ⟨#[]⟩, .bool false] 24)).heap[w.heap.size]? = some (.cells #[.int .i64 s.at', .int .u8 s.mark, .string s.mid, pv, .string s.txt, .string s.left, .bool s.late] 24 (0, 0)) := heap_box _ _ (heap_alloc_new w _)
  have x1 := new_two w (.cells #[.int .i64 s.at', .int .u8 s.mark, .string s.mid, pv, .string s.txt, .string s.left, .bool s.late] 24) (.cells #[.int .i64 0, .int .u8 0, .string ⟨#[]⟩, .slice none 0 0, .string ⟨#[]⟩, .string ⟨#[]⟩, .bool false] 24)
  have kk := below_two w (.cells #[.int .i64 s.at', .int .u8 s.mark, .string s.mid, pv, .string s.txt, .string s.left, .bool s.late] 24) (.cells #[.int .i64 0, .int .u8 0, .string ⟨#[]⟩, .slice none 0 0, .string ⟨#[]⟩, .string ⟨#[]⟩, .bool false] 24)
  generalize hW0 : ((w.alloc (.cells #[.int .i64 s.at', .int .u8 s.mark, .string s.mid, pv, .string s.txt, .string s.left, .bool s.late] 24)).alloc (.cells #[.int .i64 0, .int .u8 0, .string ⟨#[]⟩, .slice none 0 0, .string ⟨#[]⟩, .string ⟨#[]⟩, .bool false] 24)) = W0 at x0 x1 kk
  have HW0 : Hid (_ = W0) := hW0
  have HI : Hid (IntsV w pv s.ps) := hI
  have HS : Hid (∀ W : World, W.heap[w.heap.size]? = some (.cells #[.int .i64 s.at', .int .u8 s.mark, .string s.mid, pv, .string s.txt, .string s.left, .bool s.late] 24 (0, 0)) → W.heap[w.heap.size]? = some (.cells #[.int .i64 s.at', .int .u8 s.mark, .string s.mid, pv, .string s.txt, .string s.left, .bool s.late] 24 (0, 0)) ∧ (W.cell? ⟨w.heap.size, 2, none⟩ = some (.string s.mid) ∧ W.cell? ⟨w.heap.size, 4, none⟩ = some (.string s.txt) ∧ W.cell? ⟨w.heap.size, 5, none⟩ = some (.string s.left)) ∧ (W.frozen? ⟨w.heap.size, 2, none⟩ = false ∧ W.frozen? ⟨w.heap.size, 4, none⟩ = false ∧ W.frozen? ⟨w.heap.size, 5, none⟩ = false)) := fun W h => by
    obtain ⟨-, -, c2, -, c4, c5, -, cf⟩ := cells7 h
    exact ⟨h, ⟨c2, c4, c5⟩, cf 2, cf 4, cf 5⟩
  have x0d : W0.drew.heap[w.heap.size]? = some (.cells #[.int .i64 s.at', .int .u8 s.mark, .string s.mid, pv, .string s.txt, .string s.left, .bool s.late] 24 (0, 0)) := x0
  clear hW0 hI hB
  go_enter Tryd.func17, Tryd.ntmps17
  go_wp2_with fail
  rw [HW0.out]
  go_region_held3 (fun W => W.heap[w.heap.size]? = some (.cells #[.int .i64 s.at', .int .u8 s.mark, .string s.mid, pv, .string s.txt, .string s.left, .bool s.late] 24 (0, 0)) ∧ (W.cell? ⟨w.heap.size, 2, none⟩ = some (.string s.mid) ∧ W.cell? ⟨w.heap.size, 4, none⟩ = some (.string s.txt) ∧ W.cell? ⟨w.heap.size, 5, none⟩ = some (.string s.left)) ∧ (W.frozen? ⟨w.heap.size, 2, none⟩ = false ∧ W.frozen? ⟨w.heap.size, 4, none⟩ = false ∧ W.frozen? ⟨w.heap.size, 5, none⟩ = false))
    ((refine HS.out _ ?_; repeat' (first | with_reducible exact x0d | with_reducible exact z3 | with_reducible exact z2 | with_reducible exact z1 | with_reducible refine keep2 ?_ | with_reducible refine keep4 ?_ | with_reducible refine keep5 ?_)))
    (first
      | (go_at_call_of 37 s.mid; refine (clone_any s.mid _ (by omega)).mono ?_; rintro e W1 ⟨rfl, b1⟩; have z1 := stay x0d b1)
      | (go_at_call_of 37 s.txt; refine (clone_any s.txt _ (by omega)).mono ?_; rintro e W2 ⟨rfl, b2⟩; have z2 := stay z1 b2)
      | (go_at_call_of 37 s.left; refine (clone_any s.left _ (by omega)).mono ?_; rintro e W3 ⟨rfl, b3⟩; have z3 := stay z2 b3))
  have y1 := stay (stay (stay (show W0.drew.heap[w.heap.size + 1]? = _ from x1) b1) b2) b3
  have kw : Below w.heap.size w W3 := (((kk.drew).trans (b1.mono kk.drew.size)).trans (b2.mono ((kk.drew).trans (b1.mono kk.drew.size)).size)).trans (b3.mono (((kk.drew).trans (b1.mono kk.drew.size)).trans (b2.mono ((kk.drew).trans (b1.mono kk.drew.size)).size)).size)
  have zX := keep5 (keep4 (keep2 z3))
  have kX : Below w.heap.size w (((W3.setCell ⟨w.heap.size, 2, none⟩ (.string s.mid)).setCell ⟨w.heap.size, 4, none⟩ (.string s.txt)).setCell ⟨w.heap.size, 5, none⟩ (.string s.left)) := below_put (below_put (below_put kw (Nat.le_refl _) _) (Nat.le_refl _) _) (Nat.le_refl _) _
  have yX : (((W3.setCell ⟨w.heap.size, 2, none⟩ (.string s.mid)).setCell ⟨w.heap.size, 4, none⟩ (.string s.txt)).setCell ⟨w.heap.size, 5, none⟩ (.string s.left)).heap[w.heap.size + 1]? = _ := (heap_setCell_other _ _ _ _ (by simp)).trans ((heap_setCell_other _ _ _ _ (by simp)).trans ((heap_setCell_other _ _ _ _ (by simp)).trans y1))
  generalize ((W3.setCell ⟨w.heap.size, 2, none⟩ (.string s.mid)).setCell ⟨w.heap.size, 4, none⟩ (.string s.txt)).setCell ⟨w.heap.size, 5, none⟩ (.string s.left) = X at zX kX yX
  clear x0 x0d x1 kk z1 z2 z3 y1 kw b1 b2 b3 HS HW0
  obtain ⟨c0, c1, c2, c3, c4, c5, c6, cf⟩ := cells7 zX
  have cf3 := cf 3
  obtain ⟨i0, hi, hzz⟩ := Option.map_eq_some_iff.1 info_int
  simp only [Prod.mk.injEq] at hzz
  obtain ⟨hz0, hz1, hz2⟩ := hzz
  rcases HI.out with ⟨hl0, p0, n0, rfl⟩ | ⟨b, o, c, rfl, hcells⟩
  · cases p0 with
    | none =>
      have HX : (X.setCell ⟨w.heap.size, 3, none⟩ (.slice none 0 0)).heap[w.heap.size + 1]? = some (.cells #[.int .i64 0, .int .u8 0, .string ⟨#[]⟩, .slice none 0 0, .string ⟨#[]⟩, .string ⟨#[]⟩, .bool false] 24 (0, 0)) := (heap_setCell_other _ _ _ _ (by simp)).trans yX
      go_wp2_with (refine wpList_store_row rfl 24 (.tmp 2) _ rfl (w.heap.size + 1) #[.int .i64 s.at', .int .u8 s.mark, .string s.mid, .slice none 0 0, .string s.txt, .string s.left, .bool s.late] rfl rfl _ _ HX (by kernel_rfl) rfl (by simp [Value.oneCell']) ?_)
      (try simp only [Exit.inBlock, Exit.then])
      refine bodyPost_ret (v := .agg #[.int .i64 s.at', .int .u8 s.mark, .string s.mid, .slice none 0 0, .string s.txt, .string s.left, .bool s.late]) ?_ rfl ⟨_, rfl, own_put (by rw [hl0]; exact World.ownsRow_nil _ _ _ _) zX yX, below_setRow (below_put kX (Nat.le_refl _) _) (by omega) _⟩
      exact results_cell_row rfl _ _ (w.heap.size + 1) _ _ _ _ rfl (setRow_heap _ _ _ _ _ _ HX) Tryd.underlying24 rfl (by kernel_rfl)
    | some a0 =>
      have HX : (X.setCell ⟨w.heap.size, 3, none⟩ (.slice none 0 0)).heap[w.heap.size + 1]? = some (.cells #[.int .i64 0, .int .u8 0, .string ⟨#[]⟩, .slice none 0 0, .string ⟨#[]⟩, .string ⟨#[]⟩, .bool false] 24 (0, 0)) := (heap_setCell_other _ _ _ _ (by simp)).trans yX
      go_wp2_with (refine wpList_store_row rfl 24 (.tmp 2) _ rfl (w.heap.size + 1) #[.int .i64 s.at', .int .u8 s.mark, .string s.mid, .slice none 0 0, .string s.txt, .string s.left, .bool s.late] rfl rfl _ _ HX (by kernel_rfl) rfl (by simp [Value.oneCell']) ?_)
      (try simp only [Exit.inBlock, Exit.then])
      refine bodyPost_ret (v := .agg #[.int .i64 s.at', .int .u8 s.mark, .string s.mid, .slice none 0 0, .string s.txt, .string s.left, .bool s.late]) ?_ rfl ⟨_, rfl, own_put (by rw [hl0]; exact World.ownsRow_nil _ _ _ _) zX yX, below_setRow (below_put kX (Nat.le_refl _) _) (by omega) _⟩
      exact results_cell_row rfl _ _ (w.heap.size + 1) _ _ _ _ rfl (setRow_heap _ _ _ _ _ _ HX) Tryd.underlying24 rfl (by kernel_rfl)
  · have hown : X.ownsRow w.heap.size 3 1 (.slice none 0 0) 0 [] := World.ownsRow_nil _ _ _ _
    have HCL : Hid (∀ j u, (ints s.ps)[j]? = some u → X.cell? ((⟨b, o, none⟩ : Addr).add j) = some u) := fun j u hj => by
      have h1 := hcells j u hj
      rw [Addr.add_mid] at h1 ⊢
      have hlt := World.block_lt_of_cell? w _ h1
      unfold World.cell? at h1 ⊢
      rw [kX.block b hlt]
      exact h1
    have hil := ints_len s.ps
    have HYX : Hid (X.heap[w.heap.size + 1]? = _) := yX
    have HKX : Hid (Below w.heap.size w X) := kX
    have hks := kX.size
    have hy1 := blk_lt yX
    go_wp2_with (first
      | (at_builtin; refine wpList_append_own _ rfl _ _ 22 rfl w.heap.size 3 i0 (.int .i64 0) 1 8 und_ints hi hz0 hz1 hz2 rfl (by decide) (.slice none 0 0) 0 [] rfl hown ⟨b, o, none⟩ s.ps.length c (ints s.ps) rfl (by rw [hil]; omega) HCL.out (by intro u hu; simp [ints] at hu; obtain ⟨y, -, rfl⟩ := hu; rfl) (by unfold maxLen; omega) (by omega) hks ?_
         intro v3 W4 hown3 hgrow hnil
         obtain ⟨pa, pc, rfl⟩ := row_slice hown3
         have zY : W4.heap[w.heap.size]? = _ := (hgrow.block _ (by omega) (by simp [Value.ownBlock])).trans zX
         have yY : W4.heap[w.heap.size + 1]? = _ := (hgrow.block _ (by omega) (by simp [Value.ownBlock])).trans HYX.out
         obtain ⟨e0, e1, e2, e3, e4, e5, e6, ef⟩ := cells7 zY
         have ef3 := ef 3
         have HX : (W4.setCell ⟨w.heap.size, 3, none⟩ (.slice pa s.ps.length pc)).heap[w.heap.size + 1]? = some (.cells #[.int .i64 0, .int .u8 0, .string ⟨#[]⟩, .slice none 0 0, .string ⟨#[]⟩, .string ⟨#[]⟩, .bool false] 24 (0, 0)) := (heap_setCell_other _ _ _ _ (by simp)).trans yY)
      | (refine wpList_store_row rfl 24 (.tmp 2) _ rfl (w.heap.size + 1) #[.int .i64 s.at', .int .u8 s.mark, .string s.mid, .slice pa s.ps.length pc, .string s.txt, .string s.left, .bool s.late] rfl rfl _ _ HX (by kernel_rfl) rfl (by simp [Value.oneCell']) ?_))
    have kY : Below w.heap.size w W4 := HKX.out.grown hgrow hks (fun k hk => by simp [Value.ownBlock] at hk)
    (try simp only [Exit.inBlock, Exit.then])
    refine bodyPost_ret (v := .agg #[.int .i64 s.at', .int .u8 s.mark, .string s.mid, .slice pa s.ps.length pc, .string s.txt, .string s.left, .bool s.late]) ?_ rfl ⟨_, rfl, own_put (by have q := hown3; rw [Nat.zero_add, List.nil_append] at q; exact q) zY yY, below_setRow (below_put kY (Nat.le_refl _) _) (by omega) _⟩
    exact results_cell_row rfl _ _ (w.heap.size + 1) _ _ _ _ rfl (setRow_heap _ _ _ _ _ _ HX) Tryd.underlying24 rfl (by kernel_rfl)
end Prs
end Go.Proofs.YtmgmdijhiplalaaDoor
