/- (*sheet.Sheet).Write: a rune over the cells from X on. -/
import Derived.Test.YtdnglbgdoemejaaDoorPartI
import Derived.Test.YtdnglbgdoemejaaDoorPartH
import Derived.Deep.RegionHeld3
import Derived.Deep.Cut
import Derived.Deep.CutRange
namespace Go.Proofs.YtdnglbgdoemejaaDoor
open Go.ChangeShapes Go.WideShapes Go.ChangeAt Go.RowKit
namespace Put
open Grd (C SliceAt CellsAt gridErr z0 nilV flat rowsL OwnG RowB)
open Sty (isSt)
open Txt (wd)
theorem wd_ok (r : Int) (h : wd r ≠ 0) : Txt.okRune r := by
  unfold Txt.okRune
  by_cases h0 : r < 0 ∨ 1114111 < r
  · exact absurd (by unfold wd; rw [if_pos h0]) h
  · by_cases h1 : 55296 ≤ r ∧ r ≤ 57343
    · refine absurd ?_ h
      unfold wd
      rw [if_neg h0]
      unfold Txt.spans
      simp only [Txt.look]
      repeat' split
      all_goals first | rfl | omega
    · omega
theorem runes_encode (r : Int) (h : wd r ≠ 0) : ∃ k, Txt.runes (Utf8.encode r) = [(r, k)] := by
  refine ⟨(Lib.encodeRune r).length, ?_⟩
  have h1 := Txt.rn_encode r (wd_ok r h) []
  rw [List.append_nil, Txt.rn_nil] at h1
  rw [Txt.runes_rn, Txt.encode_eq, ← h1]
  simp [Txt.bs]
/-- A row with one rune written into it. -/
def putRune (look : Int × Int × Int) (row : List C) (x : Nat) (r : Int) : List C := Grd.mendL (Grd.writeOne look row x r)
theorem putRune_len (look : Int × Int × Int) (row : List C) (x : Nat) (r : Int) : (putRune look row x r).length = row.length := by
  unfold putRune
  rw [Grd.mendL_len, Grd.writeOne_len]
theorem write_one (n : Nat) (row : List C) (x : Nat) (r : Int) (k : Nat) (look : Int × Int × Int) (hn : row.length = n) (hf : wd r ≤ (n : Int) - x) : Grd.writeG n 1 row x 0 [(r, k)] look = putRune look row x r := by
  unfold Grd.writeG putRune
  simp only [Grd.preF, List.nil_append, Grd.writeF, if_pos]
  have e : Grd.rowAt n row 0 = row := by unfold Grd.rowAt; rw [Nat.zero_mul, List.drop_zero, ← hn, List.take_length]
  rw [e]
  simp only [Grd.writeR]
  rw [if_neg (by rw [hn]; omega)]
theorem ShA.style {t : TypeId} {W : World} {M N p : Nat} {s : Scr} {rows : List (List C)} {cv tv gv rv : Value} {gvs vs : List Value} (h : ShA t W M N p s rows cv tv gv rv gvs vs) : W.cell? ⟨p, 6, none⟩ = some (.int .i64 s.sf) ∧ W.cell? ⟨p, 7, none⟩ = some (.int .i64 s.sb) ∧ W.cell? ⟨p, 8, none⟩ = some (.int .i64 s.sx) ∧ W.cell? ⟨p, 3, none⟩ = some (.int .i64 s.x) := by
  obtain ⟨⟨-, -, -, c3, -, -, c6, c7, c8, -⟩, -, -⟩ := sh_cells h.blk
  exact ⟨c6, c7, c8, c3⟩
theorem three_at {V : World} {R : Nat} {t : TypeId} {a b c a' b' c' : Value} (h : V.heap[R]? = some (.cells #[a, b, c] t (0, 0))) : (((V.setCell ⟨R, 0, none⟩ a').setCell ⟨R, 1, none⟩ b').setCell ⟨R, 2, none⟩ c').heap[R]? = some (.cells #[a', b', c'] t (0, 0)) := store_at (store_at (store_at h rfl) rfl) rfl
theorem three_off {V : World} {R k : Nat} {a' b' c' : Value} (h : k ≠ R) : (((V.setCell ⟨R, 0, none⟩ a').setCell ⟨R, 1, none⟩ b').setCell ⟨R, 2, none⟩ c').heap[k]? = V.heap[k]? := (store_off h).trans ((store_off h).trans (store_off h))
theorem cells_three_off {V : World} {R k j : Nat} {a' b' c' : Value} (h : k ≠ R) : (((V.setCell ⟨R, 0, none⟩ a').setCell ⟨R, 1, none⟩ b').setCell ⟨R, 2, none⟩ c').cell? ⟨k, j, none⟩ = V.cell? ⟨k, j, none⟩ := (cell_store_off h).trans ((cell_store_off h).trans (cell_store_off h))
theorem below_three {W V : World} {B R : Nat} {a' b' c' : Value} (h : Below B W V) (hR : B ≤ R) : Below B W (((V.setCell ⟨R, 0, none⟩ a').setCell ⟨R, 1, none⟩ b').setCell ⟨R, 2, none⟩ c') := ((h.setCell hR _).setCell hR _).setCell hR _
theorem own_three {V : World} {R base : Nat} {a' b' c' v : Value} {row : List C} (h : OwnG V base v row) (hR : R < base) : OwnG (((V.setCell ⟨R, 0, none⟩ a').setCell ⟨R, 1, none⟩ b').setCell ⟨R, 2, none⟩ c') base v row := by
  obtain ⟨g, cap, rest, t, hv, hg, h1, h2, h3⟩ := h
  exact ⟨g, cap, rest, t, hv, hg, h1, h2, (three_off (by omega)).trans h3⟩
set_option linter.unusedSimpArgs false in
set_option maxHeartbeats 4000000 in
set_option maxRecDepth 100000 in
theorem write1_alters (W : World) (M N p Bp Br : Nat) (s : Scr) (rows : List (List C)) (cv tv gv rv : Value) (gvs vs : List Value) (hT : Txt.Tab W) (hS : ShA 70 W M N p s rows cv tv gv rv gvs vs) (hBp : W.cell? ⟨Bp, 0, none⟩ = some (.pointer (some ⟨p, 0, none⟩))) (r : Int) (hBr : W.cell? ⟨Br, 0, none⟩ = some (.int .i32 r))
    (n x y : Nat) (hy : y < rows.length) (row : List C) (hrow : rows.getD y [] = row) (hw : s.w = n) (hx : s.x = x) (hxn : x < n) (hrn : row.length = n) (hz : gridErr n 1 row = 0) (hst : isSt (s.sf, s.sb, s.sx) = true) (hr : wd r ≠ 0) (hfit : wd r ≤ (n : Int) - x) :
    Alters 102 #[.pointer (some ⟨Bp, 0, none⟩), .pointer (some ⟨Br, 0, none⟩)] M W s.w (vs.getD y nilV) (putRune (s.sf, s.sb, s.sx) row x r) := by
  intro W1 hb
  have hn1 : 1 ≤ n := by omega
  have hri := hS.rin.2 y hy
  rw [hrow] at hri
  rcases hri with ⟨he, -⟩ | ⟨-, b, o, c, hv, hc1, hc2, hC, -⟩
  · rw [he] at hrn
    simp at hrn
    omega
  obtain ⟨kl, hkl⟩ := runes_encode r hr
  have HR : Hid (Grd.writeG n 1 row x 0 (Txt.runes (Utf8.encode r)) (s.sf, s.sb, s.sx) = putRune (s.sf, s.sb, s.sx) row x r) := by
    unfold Hid
    rw [hkl]
    exact write_one n row x r kl _ hrn hfit
  have hS1 := hS.next hb
  obtain ⟨c6, c7, c8, c3⟩ := hS1.style
  have q1 := cell_stay hb hBp
  have q2 := cell_stay hb hBr
  rw [hw, hv, hrn]
  rw [hx] at c3
  have HWR : Hid (∀ V, Below W1.heap.size W1 V → Calls Tryd.prog 103 #[.agg #[.int .i64 (n : Int), .int .i64 ((1 : Nat) : Int), .slice (some ⟨b, o, none⟩) n c], .int .i64 (x : Int), .int .i64 ((0 : Nat) : Int), .string (Utf8.encode r), .agg #[.int .i64 s.sf, .int .i64 s.sb, .int .i64 s.sx]] V fun e w' => ∃ v, e = .returned (.tuple #[.agg #[.int .i64 (n : Int), .int .i64 ((1 : Nat) : Int), v], .int .i64 0]) ∧ OwnG w' V.heap.size v (Grd.writeG n 1 row x 0 (Txt.runes (Utf8.encode r)) (s.sf, s.sb, s.sx)) ∧ Below V.heap.size V w') := fun V hV => by
    have h := Grd.write_good n 1 b o c x 0 row s.sf s.sb s.sx (Utf8.encode r) V (Grd.Tab.next hT (hb.trans (hV.mono hb.size))) ((hC.below hb).below hV) hz hc1 hc2 hxn (by omega) hst
    rw [hrn] at h
    exact h
  have HPL : Hid ((putRune (s.sf, s.sb, s.sx) row x r).length = row.length) := putRune_len _ _ _ _
  have HRN : Hid (row.length = n) := hrn
  have NE : Hid (Bp ≠ W1.heap.size ∧ Br ≠ W1.heap.size ∧ p ≠ W1.heap.size) := ⟨Nat.ne_of_lt (World.block_lt_of_cell? W1 _ q1), Nat.ne_of_lt (World.block_lt_of_cell? W1 _ q2), Nat.ne_of_lt (heap_lt hS1.blk)⟩
  clear hS hS1 hBp hBr hrow hw hx hz hst hr hfit hkl hC hb hT hv hrn hc1
  have hx0 : ((W1.alloc (.cells #[.int .i64 (n : Int), .int .i64 1, .slice (some ⟨b, o, none⟩) n c] 24)).alloc (.cells #[.int .i64 0, .int .i64 0, .slice none 0 0] 24)).heap[W1.heap.size]? = some (.cells #[.int .i64 (n : Int), .int .i64 1, .slice (some ⟨b, o, none⟩) n c] 24 (0, 0)) := (Below.heap_alloc _ _ _ (by simp)).trans (heap_alloc_new _ _)
  have hx1 : ((W1.alloc (.cells #[.int .i64 (n : Int), .int .i64 1, .slice (some ⟨b, o, none⟩) n c] 24)).alloc (.cells #[.int .i64 0, .int .i64 0, .slice none 0 0] 24)).heap[W1.heap.size + 1]? = some (.cells #[.int .i64 0, .int .i64 0, .slice none 0 0] 24 (0, 0)) := heap_alloc2_new W1 _ _
  have hkb : Below W1.heap.size W1 ((W1.alloc (.cells #[.int .i64 (n : Int), .int .i64 1, .slice (some ⟨b, o, none⟩) n c] 24)).alloc (.cells #[.int .i64 0, .int .i64 0, .slice none 0 0] 24)) := ((Below.refl _ _).alloc (Nat.le_refl _) _).alloc (by simp) _
  have HX0 : Hid _ := hx0
  have HX1 : Hid _ := hx1
  have HKB : Hid _ := hkb
  clear hx0 hx1 hkb
  go_enter Tryd.func102, Tryd.ntmps102
  go_upto_region 1 with fail
  generalize ((W1.alloc (.cells #[.int .i64 (n : Int), .int .i64 1, .slice (some ⟨b, o, none⟩) n c] 24)).alloc (.cells #[.int .i64 0, .int .i64 0, .slice none 0 0] 24)) = X at *
  obtain ⟨g0, g1, g2, gf⟩ := Grd.cells3 HX0.out
  have e0 : (fun w' => w'.cell? ⟨Bp, 0, none⟩ = some (.pointer (some ⟨p, 0, none⟩)) ∧ w'.cell? ⟨Br, 0, none⟩ = some (.int .i32 r) ∧ w'.cell? ⟨p, 3, none⟩ = some (.int .i64 (x : Int)) ∧ w'.cell? ⟨p, 6, none⟩ = some (.int .i64 s.sf) ∧ w'.cell? ⟨p, 7, none⟩ = some (.int .i64 s.sb) ∧ w'.cell? ⟨p, 8, none⟩ = some (.int .i64 s.sx)) X.drew := ⟨cell_stay HKB.out q1, cell_stay HKB.out q2, cell_stay HKB.out c3, cell_stay HKB.out c6, cell_stay HKB.out c7, cell_stay HKB.out c8⟩
  have b0 : Below X.heap.size X X.drew := (Below.refl _ _).drew
  go_cut [] from 5 to 21 (fun wx => ∃ v, wx.heap[W1.heap.size]? = some (.cells #[.int .i64 (n : Int), .int .i64 1, v] 24 (0, 0)) ∧ wx.heap[W1.heap.size + 1]? = some (.cells #[.int .i64 0, .int .i64 0, .slice none 0 0] 24 (0, 0)) ∧ OwnG wx X.heap.size v (putRune (s.sf, s.sb, s.sx) row x r) ∧ Below W1.heap.size W1 wx)
  case first =>
    clear q1 q2 c3 c6 c7 c8
    refine wp_region_noPanic ?_
    refine wp_region_held_drew (S := (fun w' => w'.cell? ⟨Bp, 0, none⟩ = some (.pointer (some ⟨p, 0, none⟩)) ∧ w'.cell? ⟨Br, 0, none⟩ = some (.int .i32 r) ∧ w'.cell? ⟨p, 3, none⟩ = some (.int .i64 (x : Int)) ∧ w'.cell? ⟨p, 6, none⟩ = some (.int .i64 s.sf) ∧ w'.cell? ⟨p, 7, none⟩ = some (.int .i64 s.sb) ∧ w'.cell? ⟨p, 8, none⟩ = some (.int .i64 s.sx))) (by kernel_rfl) e0 (fun hHeld => ?_)
    refine wpAnyH_take (i := 1) (oi := _) (v := ?_) rfl (by kernel_rfl) (by kernel_rfl) (by kernel_rfl) (fun _ _ _ h => h) (Or.inl ⟨by rfl, ?_⟩) hHeld ?_
    rotate_left
    · intro w hSw
      (try dsimp only at hSw)
      go_simp
      (try with_reducible rfl)
    (try simp only [Act.put, List.setIfInBounds_toArray, List.set_cons_zero, List.set_cons_succ])
    refine wpAnyH_take (i := 2) (oi := _) (v := ?_) rfl (by kernel_rfl) (by kernel_rfl) (by kernel_rfl) (fun _ _ _ h => h) (Or.inl ⟨by rfl, ?_⟩) hHeld ?_
    rotate_left
    · intro w hSw
      (try dsimp only at hSw)
      go_simp
      (try with_reducible rfl)
    (try simp only [Act.put, List.setIfInBounds_toArray, List.set_cons_zero, List.set_cons_succ])
    refine wpAnyH_take (i := 3) (oi := _) (v := ?_) rfl (by kernel_rfl) (by kernel_rfl) (by kernel_rfl) (fun _ _ _ h => h) (Or.inl ⟨by rfl, ?_⟩) hHeld ?_
    rotate_left
    · intro w hSw
      (try dsimp only at hSw)
      go_simp
      (try with_reducible rfl)
    (try simp only [Act.put, List.setIfInBounds_toArray, List.set_cons_zero, List.set_cons_succ])
    refine wpAnyH_take (i := 4) (oi := _) (v := ?_) rfl (by kernel_rfl) (by kernel_rfl) (by kernel_rfl) (fun _ _ _ h => h) (Or.inl ⟨by rfl, ?_⟩) hHeld ?_
    rotate_left
    · intro w hSw
      (try dsimp only at hSw)
      go_simp
      (try with_reducible rfl)
    (try simp only [Act.put, List.setIfInBounds_toArray, List.set_cons_zero, List.set_cons_succ])
    refine wpAnyH_take (i := 5) (oi := _) (v := ?_) rfl (by kernel_rfl) (by kernel_rfl) (by kernel_rfl) (fun _ _ _ h => h) (Or.inl ⟨by rfl, ?_⟩) hHeld ?_
    rotate_left
    · intro w hSw
      (try dsimp only at hSw)
      go_simp
      (try with_reducible rfl)
    (try simp only [Act.put, List.setIfInBounds_toArray, List.set_cons_zero, List.set_cons_succ])
    refine wpAnyH_take (i := 6) (oi := _) (v := ?_) rfl (by kernel_rfl) (by kernel_rfl) (by kernel_rfl) (fun _ _ _ h => h) (Or.inl ⟨by rfl, ?_⟩) hHeld ?_
    rotate_left
    · intro w hSw
      (try dsimp only at hSw)
      go_simp
      (try with_reducible rfl)
    (try simp only [Act.put, List.setIfInBounds_toArray, List.set_cons_zero, List.set_cons_succ])
    refine wpAnyH_take (i := 7) (oi := _) (v := ?_) rfl (by kernel_rfl) (by kernel_rfl) (by kernel_rfl) (fun _ _ _ h => h) (Or.inl ⟨by rfl, ?_⟩) hHeld ?_
    rotate_left
    · intro w hSw
      (try dsimp only at hSw)
      go_simp
      (try with_reducible rfl)
    (try simp only [Act.put, List.setIfInBounds_toArray, List.set_cons_zero, List.set_cons_succ])
    refine wpAnyH_take (i := 8) (oi := _) (v := ?_) rfl (by kernel_rfl) (by kernel_rfl) (by kernel_rfl) (fun _ _ _ h => h) (Or.inl ⟨by rfl, ?_⟩) hHeld ?_
    rotate_left
    · intro w hSw
      (try dsimp only at hSw)
      go_simp
      (try with_reducible rfl)
    (try simp only [Act.put, List.setIfInBounds_toArray, List.set_cons_zero, List.set_cons_succ])
    refine wpAnyH_take (i := 9) (oi := _) (v := ?_) rfl (by kernel_rfl) (by kernel_rfl) (by kernel_rfl) (fun _ _ _ h => h) (Or.inl ⟨by rfl, ?_⟩) hHeld ?_
    rotate_left
    · intro w hSw
      (try dsimp only at hSw)
      go_simp
      (try with_reducible rfl)
    (try simp only [Act.put, List.setIfInBounds_toArray, List.set_cons_zero, List.set_cons_succ])
    refine wpAnyH_take (i := 10) (oi := _) (v := ?_) rfl (by kernel_rfl) (by kernel_rfl) (by kernel_rfl) (fun _ _ _ h => h) (Or.inl ⟨by rfl, ?_⟩) hHeld ?_
    rotate_left
    · intro w hSw
      (try dsimp only at hSw)
      go_simp
      (try with_reducible rfl)
    (try simp only [Act.put, List.setIfInBounds_toArray, List.set_cons_zero, List.set_cons_succ])
    refine wpAnyH_take (i := 11) (oi := _) (v := ?_) rfl (by kernel_rfl) (by kernel_rfl) (by kernel_rfl) (fun _ _ _ h => h) (Or.inl ⟨by rfl, ?_⟩) hHeld ?_
    rotate_left
    · intro w hSw
      (try dsimp only at hSw)
      go_simp
      (try with_reducible rfl)
    (try simp only [Act.put, List.setIfInBounds_toArray, List.set_cons_zero, List.set_cons_succ])
    refine wpAnyH_take (i := 12) (oi := _) (v := ?_) rfl (by kernel_rfl) (by kernel_rfl) (by kernel_rfl) (fun _ _ _ h => h) (Or.inl ⟨by rfl, ?_⟩) hHeld ?_
    rotate_left
    · intro w hSw
      (try dsimp only at hSw)
      go_simp
      (try with_reducible rfl)
    (try simp only [Act.put, List.setIfInBounds_toArray, List.set_cons_zero, List.set_cons_succ])
    refine wpAnyH_ready (rs := [0]) (by kernel_rfl) (by simp) ?_
    refine AllReadyH.cons (o := _) rfl (fun K hK => ?_) AllReadyH.nil
    go_simp
    refine hK.out _ _ e0 (fun hHeld => ?_)
    clear hK K
    (try simp only [Act.put, List.setIfInBounds_toArray, List.set_cons_zero, List.set_cons_succ])
    refine wpAnyH_ready (rs := [13]) (by kernel_rfl) (by simp) ?_
    refine AllReadyH.cons (o := _) rfl (fun K hK => ?_) AllReadyH.nil
    go_simp
    refine (HWR.out _ (HKB.out.trans (b0.mono HKB.out.size))).mono ?_
    rintro e V ⟨v', rfl, ho, b1⟩
    obtain ⟨na, nc, hsh⟩ : ∃ na nc, v' = .slice na n nc := by
      obtain ⟨g, cap, rest, t, hv, -⟩ := ho
      rw [HR.out, HPL.out, HRN.out] at hv
      exact ⟨_, _, hv⟩
    subst hsh
    have e1 : (fun w' => w'.cell? ⟨Bp, 0, none⟩ = some (.pointer (some ⟨p, 0, none⟩)) ∧ w'.cell? ⟨Br, 0, none⟩ = some (.int .i32 r) ∧ w'.cell? ⟨p, 3, none⟩ = some (.int .i64 (x : Int)) ∧ w'.cell? ⟨p, 6, none⟩ = some (.int .i64 s.sf) ∧ w'.cell? ⟨p, 7, none⟩ = some (.int .i64 s.sb) ∧ w'.cell? ⟨p, 8, none⟩ = some (.int .i64 s.sx)) V := ⟨cell_stay b1 e0.1, cell_stay b1 e0.2.1, cell_stay b1 e0.2.2.1, cell_stay b1 e0.2.2.2.1, cell_stay b1 e0.2.2.2.2.1, cell_stay b1 e0.2.2.2.2.2⟩
    have e2 : (fun w' => w'.cell? ⟨Bp, 0, none⟩ = some (.pointer (some ⟨p, 0, none⟩)) ∧ w'.cell? ⟨Br, 0, none⟩ = some (.int .i32 r) ∧ w'.cell? ⟨p, 3, none⟩ = some (.int .i64 (x : Int)) ∧ w'.cell? ⟨p, 6, none⟩ = some (.int .i64 s.sf) ∧ w'.cell? ⟨p, 7, none⟩ = some (.int .i64 s.sb) ∧ w'.cell? ⟨p, 8, none⟩ = some (.int .i64 s.sx)) (((V.setCell ⟨W1.heap.size, 0, none⟩ (.int .i64 (n : Int))).setCell ⟨W1.heap.size, 1, none⟩ (.int .i64 1)).setCell ⟨W1.heap.size, 2, none⟩ (.slice na n nc)) := ⟨(cells_three_off NE.out.1).trans e1.1, (cells_three_off NE.out.2.1).trans e1.2.1, (cells_three_off NE.out.2.2).trans e1.2.2.1, (cells_three_off NE.out.2.2).trans e1.2.2.2.1, (cells_three_off NE.out.2.2).trans e1.2.2.2.2.1, (cells_three_off NE.out.2.2).trans e1.2.2.2.2.2⟩
    have hbX : Below X.heap.size X V := b0.trans (b1.mono b0.size)
    have y0 := Grd.carry HX0.out hbX
    have y1 := Grd.carry HX1.out hbX
    obtain ⟨h0, h1, h2, hf⟩ := Grd.cells3 y0
    have hf0 := hf 0
    have hf1 := hf 1
    have hf2 := hf 2
    have HO : Hid (OwnG V X.heap.size (.slice na n nc) (Grd.writeG n 1 row x 0 (Txt.runes (Utf8.encode r)) (s.sf, s.sb, s.sx))) := ho
    have HY0 : Hid (V.heap[W1.heap.size]? = _) := y0
    have HY1 : Hid (V.heap[W1.heap.size + 1]? = _) := y1
    have HBV : Hid (Below X.heap.size X V) := hbX
    clear ho b1 hf y0 y1 hbX
    go_wp2_with fail
    refine hK.out _ _ e1 (fun hHeld => ?_)
    clear hK K
    (try simp only [Act.put, List.setIfInBounds_toArray, List.set_cons_zero, List.set_cons_succ])
    refine wpAnyH_take (i := 14) (oi := _) (v := ?_) rfl (by kernel_rfl) (by kernel_rfl) (by kernel_rfl) (fun _ _ _ h => h) (Or.inl ⟨by rfl, ?_⟩) hHeld ?_
    rotate_left
    · intro w hSw
      (try dsimp only at hSw)
      go_simp
      (try with_reducible rfl)
    (try simp only [Act.put, List.setIfInBounds_toArray, List.set_cons_zero, List.set_cons_succ])
    refine wpAnyH_take (i := 15) (oi := _) (v := ?_) rfl (by kernel_rfl) (by kernel_rfl) (by kernel_rfl) (fun _ _ _ h => h) (Or.inl ⟨by rfl, ?_⟩) hHeld ?_
    rotate_left
    · intro w hSw
      (try dsimp only at hSw)
      go_simp
      (try with_reducible rfl)
    (try simp only [Act.put, List.setIfInBounds_toArray, List.set_cons_zero, List.set_cons_succ])
    refine wpAnyH_take (i := 16) (oi := _) (v := ?_) rfl (by kernel_rfl) (by kernel_rfl) (by kernel_rfl) (fun _ _ _ h => h) (Or.inl ⟨by rfl, ?_⟩) hHeld ?_
    rotate_left
    · intro w hSw
      (try dsimp only at hSw)
      go_simp
      (try with_reducible rfl)
    (try simp only [Act.put, List.setIfInBounds_toArray, List.set_cons_zero, List.set_cons_succ])
    refine wpAnyH_ready (rs := [17]) (by kernel_rfl) (by simp) ?_
    refine AllReadyH.cons (o := _) rfl (fun K hK => ?_) AllReadyH.nil
    go_simp
    refine hK.out _ _ e2 (fun hHeld => ?_)
    clear hK K
    (try simp only [Act.put, List.setIfInBounds_toArray, List.set_cons_zero, List.set_cons_succ])
    refine wpAnyH_done (by kernel_rfl) ?_ _
    refine NoPanic.normal ?_
    go_wp2_with fail
    go_meet
    have hX := HKB.out.size
    have hl0 := heap_lt HX0.out
    refine ⟨_, three_at HY0.out, (three_off (by omega)).trans HY1.out, ?_, below_three (HKB.out.trans (HBV.out.mono hX)) (Nat.le_refl _)⟩
    have ho := HO.out
    rw [HR.out] at ho
    exact own_three ho (by omega)
  case rest =>
    obtain ⟨v, hx0, hx1, ho, hb⟩ := hcut
    obtain ⟨g0', g1', g2', -⟩ := Grd.cells3 hx0
    obtain ⟨h0, h1, h2, hf⟩ := Grd.cells3 hx1
    have hf0 := hf 0
    have hf1 := hf 1
    have hf2 := hf 2
    obtain ⟨na, nc, hsh⟩ : ∃ na nc, v = .slice na n nc := by
      obtain ⟨g, cap, rest, t, hv, -⟩ := ho
      rw [HPL.out, HRN.out] at hv
      exact ⟨_, _, hv⟩
    subst hsh
    have HO : Hid (OwnG wc X.heap.size (.slice na n nc) (putRune (s.sf, s.sb, s.sx) row x r)) := ho
    have HB : Hid (Below W1.heap.size W1 wc) := hb
    have HY1 : Hid _ := hx1
    have hl1 := heap_lt HX1.out
    clear ho hb hx0 hx1 hf e0 g0 g1 g2 gf q1 q2 c3 c6 c7 c8
    go_wp2_with (first
      | (refine wpList_store_row rfl 24 (.tmp 4) _ rfl (W1.heap.size + 1) #[.int .i64 (n : Int), .int .i64 1, .slice na n nc] rfl rfl _ _ HY1.out (by kernel_rfl) rfl (Grd.one3v _ _ _ _ _) ?_))
    (try simp only [Exit.inBlock, Exit.then])
    refine bodyPost_ret (v := .agg #[.int .i64 (n : Int), .int .i64 1, .slice na n nc]) ?_ rfl ⟨na, nc, by rw [HPL.out, HRN.out], ?_, below_setRow HB.out (by omega) _⟩
    · exact results_cell_row rfl _ _ (W1.heap.size + 1) _ _ _ _ rfl (setRow_heap _ _ _ _ _ _ HY1.out) Tryd.underlying24 rfl (by kernel_rfl)
    · obtain ⟨g, hg, hR⟩ := own_rowB HO.out
      obtain ⟨cap, rest, hv, i1, i2, i3⟩ := hR
      rw [HPL.out, HRN.out]
      refine rowIn_rowB (g := g) ⟨cap, rest, hv, i1, i2, ?_⟩
      rw [setRow_other _ _ _ _ (by omega)]
      exact i3
end Put
end Go.Proofs.YtdnglbgdoemejaaDoor

/- The walk of grid.Fill: a right cell. -/
namespace Go.Proofs.YtdnglbgdoemejaaDoor
open Go.ChangeShapes Go.WideShapes Go.ChangeAt Go.RowKit
namespace Grd
open Txt (wd)
open Sty (isSt)
theorem info_cell4 : (Tryd.prog.info? 49).map (·.size) = some 4 := by kernel_rfl
theorem row_off (n k o : Nat) (hf : o = k * n) : 0 + k * n * 4 = o * 4 := by omega
set_option maxHeartbeats 8000000 in
theorem fill_good (n hh b o cx : Nat) (cs : List C) (rx ry rw rh r f bk x : Int) (w : World) (hT : Txt.Tab w) (hC : CellsAt w b o cs) (hok : gridErr n hh cs = 0) (hc : cs.length ≤ cx) (hm : cx ≤ 9223372036854775807) (hr : wd r = 1) (hs : isSt (f, bk, x) = true) :
    Calls Tryd.prog 87 #[.agg #[.int .i64 (n : Int), .int .i64 (hh : Int), .slice (some ⟨b, o, none⟩) cs.length cx], .agg #[.int .i64 rx, .int .i64 ry, .int .i64 rw, .int .i64 rh], .agg #[.int .i32 r, .int .i64 f, .int .i64 bk, .int .i64 x]] w fun e w' => ∃ v, e = .returned (.tuple #[.agg #[.int .i64 (n : Int), .int .i64 (hh : Int), v], .int .i64 0]) ∧ OwnG w' w.heap.size v (fillG n hh cs rx ry rw rh (r, f, bk, x)) ∧ Below w.heap.size w w' := by
  obtain ⟨hsize, hL, hrows⟩ := (gridErr_zero n hh cs).1 hok
  have ⟨p0, p1, p2, p3, p4, p5⟩ := prod_in n hh hsize
  have hne : cs ≠ [] := by
    intro h
    rw [h, List.length_nil] at hL
    have : 0 < n * hh := Nat.mul_pos (by omega) (by omega)
    omega
  have hl2 : cs.length ≤ 7200 := by
    have : ((n * hh : Nat) : Int) ≤ 7200 := by rw [Int.natCast_mul]; exact p1
    omega
  have hS : SliceAt w (.slice (some ⟨b, o, none⟩) cs.length cx) cs := .inr ⟨hne, b, o, cx, rfl, hc, hm, hC⟩
  obtain ⟨x0, x1, x2, x3, kk, hsz⟩ := alloc4 w (.cells #[.int .i64 (n : Int), .int .i64 (hh : Int), .slice (some ⟨b, o, none⟩) cs.length cx] 24) (.cells #[.int .i64 rx, .int .i64 ry, .int .i64 rw, .int .i64 rh] 113) (.cells #[.int .i32 r, .int .i64 f, .int .i64 bk, .int .i64 x] 49) (.cells #[.int .i64 0, .int .i64 0, .slice none 0 0] 24)
  have HK := check_ok n hh _ cs _ (Tab.next hT kk) (hS.below kk) hok
  have HT : Hid (∀ W, Below w.heap.size w W → Txt.Tab W) := fun W k => Tab.next hT k
  have HTP : Hid (0 < w.heap.size) := hT.pos
  have HC : Hid (CellsAt w b o cs) := hC
  have HL : Hid (cs.length = n * hh) := hL
  have HML : Hid (∀ k, k < hh → ∀ p, Alike (putRow (rowAt n cs k) p fun _ => (r, f, bk, x))) := fun k hk p => (meant_fill (rowAt n cs k) p (r, f, bk, x) (hrows k hk).1 hr hs).alike
  clear hT hS hok hC hne hrows hL p0 p1 hsize
  generalize hW0 : ((((w.alloc (.cells #[.int .i64 (n : Int), .int .i64 (hh : Int), .slice (some ⟨b, o, none⟩) cs.length cx] 24)).alloc (.cells #[.int .i64 rx, .int .i64 ry, .int .i64 rw, .int .i64 rh] 113)).alloc (.cells #[.int .i32 r, .int .i64 f, .int .i64 bk, .int .i64 x] 49)).alloc (.cells #[.int .i64 0, .int .i64 0, .slice none 0 0] 24)) = W0 at x0 x1 x2 x3 kk hsz HK
  have HW0 : Hid (_ = W0) := hW0
  have HK' : Hid (Calls Tryd.prog 24 #[.agg #[.int .i64 (n : Int), .int .i64 (hh : Int), .slice (some ⟨b, o, none⟩) cs.length cx]] W0 fun e w' => e = .returned (.int .i64 0) ∧ Below W0.heap.size W0 w') := HK
  have HR : Hid (wd r = 1) := hr
  have HS : Hid (isSt (f, bk, x) = true) := hs
  clear HK hW0 hr hs
  go_enter Tryd.func87, Tryd.ntmps87
  go_wp2_with (first
    | (go_at_call 24; rw [HW0.out]; refine HK'.out.mono ?_; rintro e W1 ⟨rfl, b1⟩; have k1 := kk.trans (b1.mono kk.size); have y3 := carry x3 b1; have y2 := carry x2 b1; have y1 := carry x1 b1; have y0 := carry x0 b1; have ⟨c0, c1, c2, c3⟩ := cells4 y2)
    | (go_at_call 28; refine (width_to r _ (HT.out _ k1) _ HR.out).mono ?_; rintro e W2 ⟨rfl, b2⟩; have k2 := k1.trans (b2.mono k1.size); have z3 := carry y3 b2; have z2 := carry y2 b2; have z1 := carry y1 b2; have z0 := carry y0 b2; have ⟨d0, d1, d2, d3⟩ := cells4 z2)
    | (go_at_call 27; refine (check_to f bk x _ HS.out _).mono ?_; rintro e W3 ⟨rfl, b3⟩; have k3 := k2.trans (b3.mono k2.size); have u3 := carry z3 b3; have u2 := carry z2 b3; have u1 := carry z1 b3; have u0 := carry z0 b3; have ⟨e0, e1, e2, _⟩ := cells3 u0)
    | (go_at_call 106; refine (copyOf_any n hh b o cx cs _ (HC.out.below k3) (by omega)).mono ?_; rintro e W4 ⟨v4, rfl, ⟨g, cap, rest, t, rfl, hgb, hlc, hcm, hgh⟩, b4⟩; have hW4 := heap_alloc_new W4 (.cells #[.int .i64 0, .int .i64 0, .slice none 0 0] 24))
    | (refine wpList_store_row rfl 24 (.tmp 9) _ rfl W4.heap.size #[.int .i64 (n : Int), .int .i64 (hh : Int), .slice (some ⟨g, 0, none⟩) cs.length cap] rfl rfl _ _ hW4 (by kernel_rfl) rfl (one3v _ _ _ _ _) ?_))
  have hsz1 := b1.size
  have hsz2 := b2.size
  have hsz3 := b3.size
  have hsz4 := b4.size
  have hg4 : g < W4.heap.size := blk_lt hgh
  have hX : ∀ k o', W4.heap[k]? = some o' → ((W4.alloc (.cells #[.int .i64 0, .int .i64 0, .slice none 0 0] 24)).setRow W4.heap.size #[.int .i64 (n : Int), .int .i64 (hh : Int), .slice (some ⟨g, 0, none⟩) cs.length cap]).heap[k]? = some o' := fun k o' hk => by
    have := blk_lt hk
    rw [setRow_other _ _ _ _ (by omega), Below.heap_alloc _ _ _ this, hk]
  have q0 := hX _ _ (carry u0 b4)
  have q1 := hX _ _ (carry u1 b4)
  have q2 := hX _ _ (carry u2 b4)
  have q3 := hX _ _ (carry u3 b4)
  have qg := hX _ _ hgh
  have qM := setRow_heap _ _ _ #[.int .i64 (n : Int), .int .i64 (hh : Int), .slice (some ⟨g, 0, none⟩) cs.length cap] _ _ hW4
  have k4 := k3.trans (b4.mono k3.size)
  have kX := below_setRow (k4.alloc k4.size (.cells #[.int .i64 0, .int .i64 0, .slice none 0 0] 24)) k4.size #[.int .i64 (n : Int), .int .i64 (hh : Int), .slice (some ⟨g, 0, none⟩) cs.length cap]
  generalize ((W4.alloc (.cells #[.int .i64 0, .int .i64 0, .slice none 0 0] 24)).setRow W4.heap.size #[.int .i64 (n : Int), .int .i64 (hh : Int), .slice (some ⟨g, 0, none⟩) cs.length cap]) = X at *
  generalize hM : W4.heap.size = M at *
  have hgN : w.heap.size + 4 ≤ g := by omega
  clear hX hW4 hgh u0 u1 u2 u3 e0 e1 e2 b4 b3 z0 z1 z2 z3 d0 d1 d2 d3 c0 c1 c2 c3 b2 y0 y1 y2 y3 b1 x0 x1 x2 x3 HW0 HK' k1 k2 k3 k4 kk hsz hsz1 hsz2 hsz3 hsz4 hM hgb
  have ⟨e0, e1, e2, _⟩ := cells3 q0
  have ⟨f0, f1, f2, f3⟩ := cells4 q1
  go_quiet (first
    | (go_at_call 108; exact Calls.quiet_of_same (near_same _ _))
    | (go_at_call 107; exact Calls.quiet_of_same (reach_same _ _ _ _)))
  go_wp2_with fail
  generalize hY : X.drewN nq = Y
  have hYh : Y.heap = X.heap := by rw [← hY]; rfl
  have kY : Below w.heap.size w Y := by rw [← hY]; exact kX.trans ⟨rfl, rfl, rfl, Nat.le_refl _, fun _ _ => rfl⟩
  rw [← hYh] at q0 q1 q2 q3 qg qM
  clear hYh hY kX e0 e1 e2 f0 f1 f2 f3
  have ⟨e0, e1, e2, _⟩ := cells3 q0
  have ⟨f0, f1, f2, f3⟩ := cells4 q1
  go_quiet (first
    | (go_at_call 108; exact Calls.quiet_of_same (near_same _ _))
    | (go_at_call 107; exact Calls.quiet_of_same (reach_same _ _ _ _)))
  have HFG : Hid (preF n cs (fillF n hh rx ry rw rh (r, f, bk, x)) hh = fillG n hh cs rx ry rw rh (r, f, bk, x)) := rfl
  have HFL : Hid (KeepLen n (fillF n hh rx ry rw rh (r, f, bk, x))) := fillF_len n hh rx ry rw rh _
  have HF0 : Hid (∀ y : Nat, ((y : Int) < max (nearI ry) 0 ∨ ¬ (y : Int) < min (nearI ry + nearI rh) hh) → ∀ row, fillF n hh rx ry rw rh (r, f, bk, x) y row = row) := fun y hy row => by
    unfold fillF inside
    rw [if_neg (by simp only [decide_eq_true_eq]; omega)]
  have HF1 : Hid (∀ y : Nat, max (nearI ry) 0 ≤ (y : Int) → (y : Int) < min (nearI ry + nearI rh) hh → ∀ row, fillF n hh rx ry rw rh (r, f, bk, x) y row = mendL (putRow row (inside rx rw n) fun _ => (r, f, bk, x))) := fun y h1 h2 row => by
    unfold fillF
    rw [if_pos (by unfold inside; simp only [decide_eq_true_eq]; omega)]
  have HP : Hid (∀ u : Nat, inside rx rw n u = decide (max (nearI rx) 0 ≤ (u : Int) ∧ (u : Int) < min (nearI rx + nearI rw) n)) := fun u => rfl
  have hRt : min (nearI rx + nearI rw) (n : Int) ≤ n := by omega
  have hBt : min (nearI ry + nearI rh) (hh : Int) ≤ hh := by omega
  generalize fillF n hh rx ry rw rh (r, f, bk, x) = F at HFG HFL HF0 HF1
  generalize inside rx rw n = ins at HF1 HP
  obtain ⟨T, hT⟩ := Int.eq_ofNat_of_zero_le (show 0 ≤ max (nearI ry) 0 by omega)
  obtain ⟨Lf, hLf⟩ := Int.eq_ofNat_of_zero_le (show 0 ≤ max (nearI rx) 0 by omega)
  rw [hT] at HF0 HF1
  rw [hLf] at HP
  simp only [hT, hLf]
  generalize min (nearI rx + nearI rw) (n : Int) = Rt at *
  generalize min (nearI ry + nearI rh) (hh : Int) = Bt at *
  clear hT hLf e0 e1 e2 f0 f1 f2 f3 q0 q1
  go_wp2_with fail
  go_loopg [14] hh (fun q y wr => ∃ k : Nat, y = .int .i64 (k : Int) ∧ T ≤ k ∧ hh - k ≤ q ∧ Apart g [g] Y wr ∧ wr.heap[g]? = some (.cells (flat (upto n hh cs F k) ++ rest).toArray t (0, 0)))
  case atStart =>
    refine ⟨T, rfl, Nat.le_refl _, by omega, ⟨(Below.refl _ _).trans ⟨rfl, rfl, rfl, Nat.le_refl _, fun _ _ => rfl⟩, fun _ _ _ => rfl⟩, ?_⟩
    rw [upto_start n hh cs F T (fun y hy => HF0.out y (.inl (by omega)) _)]
    exact qg
  case round =>
    obtain ⟨k, rfl, hk, hq, hap, hv⟩ := hrel
    have hY := hap.1
    have v2 := hap.carry q2 (by simp; omega)
    have v3 := hap.carry q3 (by simp; omega)
    have vM := hap.carry qM (by simp; omega)
    have kW : Below w.heap.size w wr := kY.trans (hY.mono (by omega))
    by_cases hlt : (k : Int) < Bt
    · have hkh : k < hh := by omega
      have hrl := row_len n hh cs k HL.out hkh
      have HRW : Hid (Calls Tryd.prog 61 #[.agg #[.int .i64 (n : Int), .int .i64 (hh : Int), .slice (some ⟨g, 0, none⟩) cs.length cap], .int .i64 (k : Int)] wr fun e w' => e = .returned (.slice (some ⟨g, 0 + k * n * 4, none⟩) n (cap - k * n)) ∧ Below wr.heap.size wr w') := rowOf_any g 0 cs.length cap n k hh wr (by omega) (row_fits n hh _ k HL.out hkh) hlc hcm
      have HE : Hid (flat (upto n hh cs F k) ++ rest = flat (preF n cs F k) ++ (flat (rowAt n cs k) ++ (flat (cs.drop ((k + 1) * n)) ++ rest))) := by
        unfold Hid
        rw [upto_at n hh cs F k hkh, flat_three]
      have HN : Hid (flat (upto n hh cs F (k + 1)) ++ rest = flat (preF n cs F k) ++ (flat (F k (rowAt n cs k)) ++ (flat (cs.drop ((k + 1) * n)) ++ rest))) := by
        unfold Hid
        rw [upto_next n hh cs F k hkh, flat_three]
      have HFk : Hid (F k (rowAt n cs k) = mendL (putRow (rowAt n cs k) ins fun _ => (r, f, bk, x))) := HF1.out k (by omega) hlt _
      have hpl : (flat (preF n cs F k)).length = 0 + k * n * 4 := by rw [flat_len, preF_len n hh cs F HL.out HFL.out k (by omega)]; omega
      have HPL : Hid ((flat (preF n cs F k)).length = 0 + k * n * 4) := hpl
      rw [HE.out] at hv
      clear hpl HE
      generalize flat (preF n cs F k) = pre at *
      generalize flat (cs.drop ((k + 1) * n)) ++ rest = post at *
      have HRL : Hid ((rowAt n cs k).length = n) := hrl
      have HMR : Hid (∀ p, Alike (putRow (rowAt n cs k) p fun _ => (r, f, bk, x))) := HML.out k hkh
      clear hrl
      generalize hrow : rowAt n cs k = row at HN HFk HRL hv HMR
      clear hrow
      generalize hoff : 0 + k * n * 4 = off at *
      have ⟨vM0, vM1, vM2, _⟩ := cells3 vM
      go_wp2_with (go_at_call 61; refine HRW.out.mono ?_; rintro e W5 ⟨rfl, b5⟩)
      have hap5 : Apart g [g] Y W5 := hap.step b5 (by have := blk_lt hv; omega)
      have hv5 := carry hv b5
      clear hap hv v2 v3 vM vM0 vM1 vM2 kW b5 HRW hY
      go_loopg [16] n (fun q xx wr => ∃ j : Nat, xx = .int .i64 (j : Int) ∧ Lf ≤ j ∧ n - j ≤ q ∧ Apart g [g] Y wr ∧ wr.heap[g]? = some (.cells (pre ++ (flat (putRow row (fun u => ins u && decide (u < j)) fun _ => (r, f, bk, x)) ++ post)).toArray t (0, 0)))
      case atStart =>
        refine ⟨Lf, rfl, Nat.le_refl _, by omega, hap5, ?_⟩
        rw [putRow_none]
        · exact hv5
        · intro u _
          rw [HP.out u]
          simp
          omega
      case round =>
        clear hap5 hv5
        obtain ⟨j, rfl, hj, hq2, hap, hv⟩ := hrel
        have v2 := hap.carry q2 (by simp; omega)
        by_cases hlt2 : (j : Int) < Rt
        · have hjn : j < n := by omega
          have hth := there_cell hv j (by rw [putRow_len, HRL.out]; exact hjn)
          have hst := store_cell hv j (by rw [putRow_len, HRL.out]; exact hjn) (r, f, bk, x)
          rw [putRow_set row _ (fun u => ins u && decide (u < j + 1)) (fun _ => (r, f, bk, x)) j (by rw [HRL.out]; exact hjn) (fun u _ => by
            rw [HP.out u]
            by_cases huj : u = j
            · subst huj; simp; omega
            · simp only [huj, decide_false, Bool.or_false]
              rw [show decide (u < j + 1) = decide (u < j) by rw [decide_eq_decide]; omega])] at hst
          rw [HPL.out] at hth hst
          have HST : Hid ((wr.setCells g (off + j * 4) (words (r, f, bk, x))).heap[g]? = some (.cells (pre ++ (flat (putRow row (fun u => ins u && decide (u < j + 1)) fun _ => (r, f, bk, x)) ++ post)).toArray t (0, 0))) := hst
          have HTH : Hid (wr.there g (off + j * 4) 4) := hth
          have HAP : Hid (Apart g [g] Y (wr.setCells g (off + j * 4) (words (r, f, bk, x)))) := hap.setCells g _ _ (by simp) (Nat.le_refl _)
          clear hst hth hap hv
          go_wp2_with (first
            | (refine wpList_load_row rfl 49 _ rfl (w.heap.size + 2) rfl _ _ _ _ v2 Tryd.underlying49 rfl (by kernel_rfl) ?_)
            | (refine wpList_store_mid rfl 49 (.tmp 78) (.tmp 77) rfl g (off + j * 4) #[.int .i32 r, .int .i64 f, .int .i64 bk, .int .i64 x] rfl rfl HTH.out info_cell4 (words_one (r, f, bk, x)) ?_))
          go_roundg (n - (j + 1))
          case measure => omega
          case rel => exact ⟨j + 1, rfl, by omega, by omega, HAP.out, HST.out⟩
        · have HEQ : Hid (putRow row (fun u => ins u && decide (u < j)) (fun _ => (r, f, bk, x)) = putRow row ins fun _ => (r, f, bk, x)) := putRow_congr _ _ _ _ _ (fun u _ => ⟨by rw [HP.out u, Bool.eq_iff_iff]; simp; omega, fun _ => rfl⟩)
          rw [HEQ.out] at hv
          have KM := mend_any g (cap - k * n) (putRow row ins fun _ => (r, f, bk, x)) pre post t wr hv (by rw [putRow_len, HRL.out]; omega) (HT.out _ (kY.trans (hap.1.mono (by omega)))) (by have := HTP.out; omega) (HMR.out ins)
          rw [putRow_len, HRL.out, HPL.out, ← HFk.out, ← HN.out] at KM
          have HKM : Hid (Calls Tryd.prog 109 #[.slice (some ⟨g, off, none⟩) n (cap - k * n)] wr fun e w' => e = .returned (.tuple #[]) ∧ w'.heap[g]? = some (.cells (flat (upto n hh cs F (k + 1)) ++ rest).toArray t (0, 0)) ∧ Apart g [g] wr w') := KM
          have HAP : Hid (Apart g [g] Y wr) := hap
          clear KM HEQ v2 hv hap
          go_wp2_with (go_at_call 109; refine HKM.out.mono ?_; rintro e W6 ⟨rfl, hv6, ap6⟩)
          go_roundg (hh - (k + 1))
          case measure => omega
          case rel => exact ⟨k + 1, rfl, by omega, by omega, HAP.out.trans ap6, hv6⟩
    · have HEN : Hid (upto n hh cs F k = preF n cs F hh) := upto_end n hh cs F HL.out k (fun y hy => HF0.out y (.inr (by omega)) _)
      have HEL : Hid ((upto n hh cs F k).length = cs.length) := upto_len n hh cs F HL.out HFL.out k
      go_wp2_with (first
        | (refine wpList_load_row rfl 24 _ rfl M rfl _ _ _ _ vM Tryd.underlying24 rfl (by kernel_rfl) ?_)
        | (refine wpList_store_row rfl 24 (.tmp 6) _ rfl (w.heap.size + 3) #[.int .i64 (n : Int), .int .i64 (hh : Int), .slice (some ⟨g, 0, none⟩) cs.length cap] rfl rfl _ _ v3 (by kernel_rfl) rfl (one3v _ _ _ _ _) ?_))
      (try simp only [Exit.inBlock, Exit.then])
      refine bodyPost_ret (v := .tuple #[.agg #[.int .i64 (n : Int), .int .i64 (hh : Int), .slice (some ⟨g, 0, none⟩) cs.length cap], .int .i64 0]) ?_ rfl ⟨_, rfl, ?_, below_setRow kW (by omega) _⟩
      · exact results_row_tmp rfl _ _ (w.heap.size + 3) _ _ _ _ rfl (setRow_heap _ _ _ _ _ _ v3) Tryd.underlying24 rfl (by kernel_rfl) _ rfl
      · rw [← HFG.out, ← HEN.out]
        refine ⟨g, cap, rest, t, by rw [HEL.out], by omega, by rw [HEL.out]; exact hlc, hcm, ?_⟩
        rw [setRow_other _ _ _ _ (by omega)]
        exact hv
end Grd
end Go.Proofs.YtdnglbgdoemejaaDoor

/- What a row is with some cells blank. -/
namespace Go.Proofs.YtdnglbgdoemejaaDoor
namespace Put
open Grd (C z0 gridErr putRow mendL RightRow Meant)
open Sty (isSt)
open Txt (wd)
def wipeRow (bk : Int) (row : List C) (a b : Nat) : List C := mendL (putRow row (fun x => decide (a ≤ x ∧ x < b)) fun _ => (32, 0, bk, 0))
theorem wipe_len (bk : Int) (row : List C) (a b : Nat) : (wipeRow bk row a b).length = row.length := by
  unfold wipeRow
  rw [Grd.mendL_len, Grd.putRow_len]
theorem wipe_right (bk : Int) (row : List C) (a b : Nat) (h : RightRow row) (hs : isSt (0, bk, 0) = true) : RightRow (wipeRow bk row a b) := by
  unfold wipeRow
  exact Grd.mend_right _ (Grd.meant_fill row _ _ h.1 Grd.wd32 hs)
theorem wipe_at (bk : Int) (row : List C) (a b x : Nat) (hx : x < row.length) (h : a ≤ x ∧ x < b) : (wipeRow bk row a b).getD x z0 = (32, 0, bk, 0) := by
  unfold wipeRow
  rw [Grd.mendL_eq, Grd.mendM_at _ _ (by rw [Grd.putRow_len]; exact hx)]
  have e : (putRow row (fun x => decide (a ≤ x ∧ x < b)) fun _ => (32, 0, bk, 0)).getD x z0 = (32, 0, bk, 0) := by
    rw [Grd.putRow_at _ _ _ _ hx, if_pos (by simpa using h)]
  rw [e]
  split <;> rfl
/-- Wiping again changes nothing. -/
theorem wipe_wipe (bk : Int) (row : List C) (a b : Nat) (h : RightRow row) (hs : isSt (0, bk, 0) = true) : wipeRow bk (wipeRow bk row a b) a b = wipeRow bk row a b := by
  have hr := wipe_right bk row a b h hs
  have e : putRow (wipeRow bk row a b) (fun x => decide (a ≤ x ∧ x < b)) (fun _ => ((32, 0, bk, 0) : C)) = wipeRow bk row a b := by
    refine Grd.ext_getD _ _ (Grd.putRow_len _ _ _) fun x hx => ?_
    rw [Grd.putRow_len] at hx
    rw [Grd.putRow_at _ _ _ _ hx]
    by_cases hp : a ≤ x ∧ x < b
    · rw [if_pos (by simpa using hp), wipe_at bk row a b x (by rw [wipe_len] at hx; exact hx) hp]
    · rw [if_neg (by simpa using hp)]
  generalize hq : wipeRow bk row a b = q at *
  unfold wipeRow
  rw [e]
  exact Grd.mendL_fix _ hr.2
/-- A row that is wiped as a whole. -/
theorem wipe_whole (bk : Int) (row : List C) (b : Nat) (hb : row.length ≤ b) : wipeRow bk row 0 b = List.replicate row.length (32, 0, bk, 0) := by
  refine Grd.ext_getD _ _ (by rw [wipe_len, List.length_replicate]) fun x hx => ?_
  rw [wipe_len] at hx
  rw [wipe_at bk row 0 b x hx ⟨Nat.zero_le _, by omega⟩]
  simp [List.getD, hx]
/-- What grid.Fill makes of one row. -/
theorem fill_wipe (n : Nat) (row : List C) (a b : Nat) (bk : Int) (hn : row.length = n) (hn2 : n ≤ 120) (ha : a ≤ n) (hb : b ≤ n) : Grd.fillG n 1 row a 0 ((b : Int) - a) 1 (32, 0, bk, 0) = wipeRow bk row a b := by
  unfold Grd.fillG
  simp only [Grd.preF, List.nil_append]
  have e : Grd.rowAt n row 0 = row := by unfold Grd.rowAt; rw [Nat.zero_mul, List.drop_zero, ← hn, List.take_length]
  rw [e]
  unfold Grd.fillF
  have e1 : Grd.inside 0 1 1 0 = true := by decide
  rw [if_pos e1]
  unfold wipeRow
  refine congrArg mendL (Grd.putRow_congr _ _ _ _ _ fun x hx => ⟨?_, fun _ => rfl⟩)
  unfold Grd.inside Grd.nearI
  rw [Bool.eq_iff_iff]
  simp
  omega
theorem row_grid (n : Nat) (row : List C) (hn : row.length = n) (hz : gridErr n 1 row = 0) : RightRow row := by
  have h := ((Grd.gridErr_zero n 1 row).1 hz).2.2 0 (by omega)
  have e : Grd.rowAt n row 0 = row := by unfold Grd.rowAt; rw [Nat.zero_mul, List.drop_zero, ← hn, List.take_length]
  rw [e] at h
  exact h
theorem grid_row (n : Nat) (row row' : List C) (hn : row'.length = n) (hz : gridErr n 1 row = 0) (h : RightRow row') : gridErr n 1 row' = 0 := by
  obtain ⟨h1, -, -⟩ := (Grd.gridErr_zero n 1 row).1 hz
  refine (Grd.gridErr_zero n 1 row').2 ⟨h1, by rw [hn, Nat.mul_one], fun y hy => ?_⟩
  obtain rfl : y = 0 := by omega
  have e : Grd.rowAt n row' 0 = row' := by unfold Grd.rowAt; rw [Nat.zero_mul, List.drop_zero, ← hn, List.take_length]
  rw [e]
  exact h
end Put
end Go.Proofs.YtdnglbgdoemejaaDoor

/- (*sheet.Sheet).Clear: cells of a row become blank. (Written by gen_putclear.py.) -/
namespace Go.Proofs.YtdnglbgdoemejaaDoor
open Go.ChangeShapes Go.WideShapes Go.ChangeAt Go.RowKit
namespace Put
open Grd (C SliceAt CellsAt gridErr z0 nilV flat rowsL OwnG RowB)
open Sty (isSt)
open Txt (wd)
theorem own_low {V : World} {base low : Nat} {v : Value} {row : List C} (h : OwnG V base v row) (hl : low ≤ base) : OwnG V low v row := by
  obtain ⟨g, cap, rest, t, hv, hg, h1, h2, h3⟩ := h
  exact ⟨g, cap, rest, t, hv, by omega, h1, h2, h3⟩
theorem one4v (a : Int) (b c d : Int) : (#[.int .i32 a, .int .i64 b, .int .i64 c, .int .i64 d] : Array Value).all (·.oneCell') = true := by simp [Value.oneCell']
set_option maxHeartbeats 2000000 in
theorem blank_any (p : Nat) (bk : Int) (V : World) (h : V.cell? ⟨p, 7, none⟩ = some (.int .i64 bk)) : Calls Tryd.prog 88 #[.pointer (some ⟨p, 0, none⟩)] V fun e V' => e = .returned (.agg #[.int .i32 32, .int .i64 0, .int .i64 bk, .int .i64 0]) ∧ Below V.heap.size V V' := by
  have x0 := heap_alloc_new V (.cells #[.int .i32 0, .int .i64 0, .int .i64 0, .int .i64 0] 49)
  have kb : Below V.heap.size V (V.alloc (.cells #[.int .i32 0, .int .i64 0, .int .i64 0, .int .i64 0] 49)) := (Below.refl _ _).alloc (Nat.le_refl _) _
  have h1 := cell_stay kb h
  have HX0 : Hid _ := x0
  have HKB : Hid _ := kb
  clear x0 kb h
  go_enter Tryd.func88, Tryd.ntmps88
  go_upto_region 1 with fail
  generalize V.alloc (.cells #[.int .i32 0, .int .i64 0, .int .i64 0, .int .i64 0] 49) = Y at *
  go_wp2_with (refine wpList_store_row rfl 49 (.tmp 2) _ rfl V.heap.size #[.int .i32 32, .int .i64 0, .int .i64 bk, .int .i64 0] rfl rfl _ _ HX0.out (by kernel_rfl) rfl (one4v _ _ _ _) ?_)
  (try simp only [Exit.inBlock, Exit.then])
  refine bodyPost_ret (v := .agg #[.int .i32 32, .int .i64 0, .int .i64 bk, .int .i64 0]) ?_ rfl ⟨rfl, below_setRow HKB.out (Nat.le_refl _) _⟩
  exact results_cell_row rfl _ _ V.heap.size _ _ _ _ rfl (setRow_heap _ _ _ _ _ _ HX0.out) Tryd.underlying49 rfl (by kernel_rfl)
set_option linter.unusedSimpArgs false in
set_option maxHeartbeats 4000000 in
set_option maxRecDepth 100000 in
theorem clear1_alters (W : World) (M N p Bp Bf Be : Nat) (s : Scr) (rows : List (List C)) (cv tv gv rv : Value) (gvs vs : List Value) (hT : Txt.Tab W) (hS : ShA 70 W M N p s rows cv tv gv rv gvs vs) (n y a b : Nat) (hBf : W.cell? ⟨Bf, 0, none⟩ = some (.int .i64 (a : Int))) (hBe : W.cell? ⟨Be, 0, none⟩ = some (.int .i64 (b : Int))) (hBp : W.cell? ⟨Bp, 0, none⟩ = some (.pointer (some ⟨p, 0, none⟩)))
    (hy : y < rows.length) (row : List C) (hrow : rows.getD y [] = row) (hw : s.w = n) (hn1 : 1 ≤ n) (hn2 : n ≤ 120) (hrn : row.length = n) (hz : gridErr n 1 row = 0) (hst : isSt (0, s.sb, 0) = true) (ha : a ≤ n) (hb' : b ≤ n) :
    Alters 86 #[.pointer (some ⟨Bf, 0, none⟩), .pointer (some ⟨Be, 0, none⟩), .pointer (some ⟨Bp, 0, none⟩)] M W s.w (vs.getD y nilV) (wipeRow s.sb row a b) := by
  intro W1 hb
  have hri := hS.rin.2 y hy
  rw [hrow] at hri
  rcases hri with ⟨he, -⟩ | ⟨-, bb, o, c, hv, hc1, hc2, hC, -⟩
  · rw [he] at hrn
    simp at hrn
    omega
  have hS1 := hS.next hb
  obtain ⟨-, c7, -, -⟩ := hS1.style
  have q1 := cell_stay hb hBf
  have q2 := cell_stay hb hBe
  have q3 := cell_stay hb hBp
  have hwr : IntKind.i64.wrap ((b : Int) - (a : Int)) = (b : Int) - (a : Int) := wrap_id _ (by omega) (by omega)
  rw [hw, hv, hrn]
  have HFL : Hid (∀ V, Below W1.heap.size W1 V → Calls Tryd.prog 87 #[.agg #[.int .i64 (n : Int), .int .i64 ((1 : Nat) : Int), .slice (some ⟨bb, o, none⟩) n c], .agg #[.int .i64 (a : Int), .int .i64 0, .int .i64 ((b : Int) - (a : Int)), .int .i64 1], .agg #[.int .i32 32, .int .i64 0, .int .i64 s.sb, .int .i64 0]] V fun e w' => ∃ v, e = .returned (.tuple #[.agg #[.int .i64 (n : Int), .int .i64 ((1 : Nat) : Int), v], .int .i64 0]) ∧ OwnG w' V.heap.size v (wipeRow s.sb row a b) ∧ Below V.heap.size V w') := fun V hV => by
    have h := Grd.fill_good n 1 bb o c row a 0 ((b : Int) - a) 1 32 0 s.sb 0 V (Grd.Tab.next hT (hb.trans (hV.mono hb.size))) ((hC.below hb).below hV) hz hc1 hc2 Grd.wd32 hst
    rw [hrn, fill_wipe n row a b s.sb hrn hn2 ha hb'] at h
    exact h
  have HBL : Hid (∀ V, Below W1.heap.size W1 V → V.cell? ⟨p, 7, none⟩ = some (.int .i64 s.sb) → Calls Tryd.prog 88 #[.pointer (some ⟨p, 0, none⟩)] V fun e V' => e = .returned (.agg #[.int .i32 32, .int .i64 0, .int .i64 s.sb, .int .i64 0]) ∧ Below V.heap.size V V') := fun V _ h => blank_any p s.sb V h
  have HPL : Hid ((wipeRow s.sb row a b).length = row.length) := wipe_len _ _ _ _
  have HRN : Hid (row.length = n) := hrn
  have NE : Hid (Bf ≠ W1.heap.size ∧ Be ≠ W1.heap.size ∧ Bp ≠ W1.heap.size ∧ p ≠ W1.heap.size) := ⟨Nat.ne_of_lt (World.block_lt_of_cell? W1 _ q1), Nat.ne_of_lt (World.block_lt_of_cell? W1 _ q2), Nat.ne_of_lt (World.block_lt_of_cell? W1 _ q3), Nat.ne_of_lt (heap_lt hS1.blk)⟩
  clear hS hS1 hBp hBf hBe hrow hw hz hst hC hb hT hv hrn hc1 ha hb'
  have hx0 : ((W1.alloc (.cells #[.int .i64 (n : Int), .int .i64 1, .slice (some ⟨bb, o, none⟩) n c] 24)).alloc (.cells #[.int .i64 0, .int .i64 0, .slice none 0 0] 24)).heap[W1.heap.size]? = some (.cells #[.int .i64 (n : Int), .int .i64 1, .slice (some ⟨bb, o, none⟩) n c] 24 (0, 0)) := (Below.heap_alloc _ _ _ (by simp)).trans (heap_alloc_new _ _)
  have hx1 : ((W1.alloc (.cells #[.int .i64 (n : Int), .int .i64 1, .slice (some ⟨bb, o, none⟩) n c] 24)).alloc (.cells #[.int .i64 0, .int .i64 0, .slice none 0 0] 24)).heap[W1.heap.size + 1]? = some (.cells #[.int .i64 0, .int .i64 0, .slice none 0 0] 24 (0, 0)) := heap_alloc2_new W1 _ _
  have hkb : Below W1.heap.size W1 ((W1.alloc (.cells #[.int .i64 (n : Int), .int .i64 1, .slice (some ⟨bb, o, none⟩) n c] 24)).alloc (.cells #[.int .i64 0, .int .i64 0, .slice none 0 0] 24)) := ((Below.refl _ _).alloc (Nat.le_refl _) _).alloc (by simp) _
  have HX0 : Hid _ := hx0
  have HX1 : Hid _ := hx1
  have HKB : Hid _ := hkb
  clear hx0 hx1 hkb
  go_enter Tryd.func86, Tryd.ntmps86
  go_upto_region 1 with fail
  generalize ((W1.alloc (.cells #[.int .i64 (n : Int), .int .i64 1, .slice (some ⟨bb, o, none⟩) n c] 24)).alloc (.cells #[.int .i64 0, .int .i64 0, .slice none 0 0] 24)) = X at *
  obtain ⟨g0, g1, g2, gf⟩ := Grd.cells3 HX0.out
  have e0 : (fun w' => w'.cell? ⟨Bf, 0, none⟩ = some (.int .i64 (a : Int)) ∧ w'.cell? ⟨Be, 0, none⟩ = some (.int .i64 (b : Int)) ∧ w'.cell? ⟨Bp, 0, none⟩ = some (.pointer (some ⟨p, 0, none⟩)) ∧ w'.cell? ⟨p, 7, none⟩ = some (.int .i64 s.sb)) X.drew := ⟨cell_stay HKB.out q1, cell_stay HKB.out q2, cell_stay HKB.out q3, cell_stay HKB.out c7⟩
  have b0 : Below X.heap.size X X.drew := (Below.refl _ _).drew
  go_cut [] from 6 to 18 (fun wx => ∃ v, wx.heap[W1.heap.size]? = some (.cells #[.int .i64 (n : Int), .int .i64 1, v] 24 (0, 0)) ∧ wx.heap[W1.heap.size + 1]? = some (.cells #[.int .i64 0, .int .i64 0, .slice none 0 0] 24 (0, 0)) ∧ OwnG wx X.heap.size v (wipeRow s.sb row a b) ∧ Below W1.heap.size W1 wx)
  case first =>
    clear q1 q2 q3 c7
    refine wp_region_noPanic ?_
    refine wp_region_held_drew (S := (fun w' => w'.cell? ⟨Bf, 0, none⟩ = some (.int .i64 (a : Int)) ∧ w'.cell? ⟨Be, 0, none⟩ = some (.int .i64 (b : Int)) ∧ w'.cell? ⟨Bp, 0, none⟩ = some (.pointer (some ⟨p, 0, none⟩)) ∧ w'.cell? ⟨p, 7, none⟩ = some (.int .i64 s.sb))) (by kernel_rfl) e0 (fun hHeld => ?_)
    refine wpAnyH_take (i := 1) (oi := _) (v := ?_) rfl (by kernel_rfl) (by kernel_rfl) (by kernel_rfl) (fun _ _ _ h => h) (Or.inl ⟨by rfl, ?_⟩) hHeld ?_
    rotate_left
    · intro w hSw
      (try dsimp only at hSw)
      go_simp
      (try with_reducible rfl)
    (try simp only [Act.put, List.setIfInBounds_toArray, List.set_cons_zero, List.set_cons_succ])
    refine wpAnyH_take (i := 2) (oi := _) (v := ?_) rfl (by kernel_rfl) (by kernel_rfl) (by kernel_rfl) (fun _ _ _ h => h) (Or.inl ⟨by rfl, ?_⟩) hHeld ?_
    rotate_left
    · intro w hSw
      (try dsimp only at hSw)
      go_simp
      (try with_reducible rfl)
    (try simp only [Act.put, List.setIfInBounds_toArray, List.set_cons_zero, List.set_cons_succ])
    refine wpAnyH_take (i := 3) (oi := _) (v := ?_) rfl (by kernel_rfl) (by kernel_rfl) (by kernel_rfl) (fun _ _ _ h => h) (Or.inl ⟨by rfl, ?_⟩) hHeld ?_
    rotate_left
    · intro w hSw
      (try dsimp only at hSw)
      go_simp
      (try with_reducible rfl)
    (try simp only [Act.put, List.setIfInBounds_toArray, List.set_cons_zero, List.set_cons_succ])
    refine wpAnyH_take (i := 4) (oi := _) (v := ?_) rfl (by kernel_rfl) (by kernel_rfl) (by kernel_rfl) (fun _ _ _ h => h) (Or.inl ⟨by rfl, ?_⟩) hHeld ?_
    rotate_left
    · intro w hSw
      (try dsimp only at hSw)
      go_simp
      (try with_reducible rfl)
    (try simp only [Act.put, List.setIfInBounds_toArray, List.set_cons_zero, List.set_cons_succ])
    refine wpAnyH_take (i := 5) (oi := _) (v := ?_) rfl (by kernel_rfl) (by kernel_rfl) (by kernel_rfl) (fun _ _ _ h => h) (Or.inl ⟨by rfl, ?_⟩) hHeld ?_
    rotate_left
    · intro w hSw
      (try dsimp only at hSw)
      go_simp
      (try with_reducible rfl)
    (try simp only [Act.put, List.setIfInBounds_toArray, List.set_cons_zero, List.set_cons_succ])
    refine wpAnyH_take (i := 6) (oi := _) (v := ?_) rfl (by kernel_rfl) (by kernel_rfl) (by kernel_rfl) (fun _ _ _ h => h) (Or.inl ⟨by rfl, ?_⟩) hHeld ?_
    rotate_left
    · intro w hSw
      (try dsimp only at hSw)
      go_simp
      (try with_reducible rfl)
    (try simp only [Act.put, List.setIfInBounds_toArray, List.set_cons_zero, List.set_cons_succ])
    refine wpAnyH_ready (rs := [0, 7]) (by kernel_rfl) (by simp) ?_
    refine AllReadyH.cons (o := _) rfl (fun K hK => ?_) (AllReadyH.cons (o := _) rfl (fun K hK => ?_) AllReadyH.nil)
    · go_simp
      refine hK.out _ _ e0 (fun hHeld => ?_)
      clear hK K
      (try simp only [Act.put, List.setIfInBounds_toArray, List.set_cons_zero, List.set_cons_succ])
      refine wpAnyH_ready (rs := [7]) (by kernel_rfl) (by simp) ?_
      refine AllReadyH.cons (o := _) rfl (fun K hK => ?_) AllReadyH.nil
      go_simp
      refine (HBL.out _ (HKB.out.trans (b0.mono HKB.out.size)) e0.2.2.2).mono ?_
      rintro e V0 ⟨rfl, k0⟩
      have e1 : (fun w' => w'.cell? ⟨Bf, 0, none⟩ = some (.int .i64 (a : Int)) ∧ w'.cell? ⟨Be, 0, none⟩ = some (.int .i64 (b : Int)) ∧ w'.cell? ⟨Bp, 0, none⟩ = some (.pointer (some ⟨p, 0, none⟩)) ∧ w'.cell? ⟨p, 7, none⟩ = some (.int .i64 s.sb)) V0 := ⟨cell_stay k0 e0.1, cell_stay k0 e0.2.1, cell_stay k0 e0.2.2.1, cell_stay k0 e0.2.2.2⟩
      have b1 : Below X.heap.size X V0 := b0.trans (k0.mono b0.size)
      have z0' := Grd.carry HX0.out b1
      obtain ⟨m0, m1, m2, -⟩ := Grd.cells3 z0'
      clear k0 z0'
      go_wp2_with fail
      refine hK.out _ _ e1 (fun hHeld => ?_)
      clear hK K
      (try simp only [Act.put, List.setIfInBounds_toArray, List.set_cons_zero, List.set_cons_succ])
      refine wpAnyH_ready (rs := [8]) (by kernel_rfl) (by simp) ?_
      refine AllReadyH.cons (o := _) rfl (fun K hK => ?_) AllReadyH.nil
      go_simp
      refine (HFL.out _ (HKB.out.trans (b1.mono HKB.out.size))).mono ?_
      rintro e V ⟨v', rfl, ho, k1⟩
      obtain ⟨na, nc, hsh⟩ : ∃ na nc, v' = .slice na n nc := by
        obtain ⟨g, cap, rest, t, hv, -⟩ := ho
        rw [HPL.out, HRN.out] at hv
        exact ⟨_, _, hv⟩
      subst hsh
      have e2 : (fun w' => w'.cell? ⟨Bf, 0, none⟩ = some (.int .i64 (a : Int)) ∧ w'.cell? ⟨Be, 0, none⟩ = some (.int .i64 (b : Int)) ∧ w'.cell? ⟨Bp, 0, none⟩ = some (.pointer (some ⟨p, 0, none⟩)) ∧ w'.cell? ⟨p, 7, none⟩ = some (.int .i64 s.sb)) V := ⟨cell_stay k1 e1.1, cell_stay k1 e1.2.1, cell_stay k1 e1.2.2.1, cell_stay k1 e1.2.2.2⟩
      have e3 : (fun w' => w'.cell? ⟨Bf, 0, none⟩ = some (.int .i64 (a : Int)) ∧ w'.cell? ⟨Be, 0, none⟩ = some (.int .i64 (b : Int)) ∧ w'.cell? ⟨Bp, 0, none⟩ = some (.pointer (some ⟨p, 0, none⟩)) ∧ w'.cell? ⟨p, 7, none⟩ = some (.int .i64 s.sb)) (((V.setCell ⟨W1.heap.size, 0, none⟩ (.int .i64 (n : Int))).setCell ⟨W1.heap.size, 1, none⟩ (.int .i64 1)).setCell ⟨W1.heap.size, 2, none⟩ (.slice na n nc)) := ⟨(cells_three_off NE.out.1).trans e2.1, (cells_three_off NE.out.2.1).trans e2.2.1, (cells_three_off NE.out.2.2.1).trans e2.2.2.1, (cells_three_off NE.out.2.2.2).trans e2.2.2.2⟩
      have hbX : Below X.heap.size X V := b1.trans (k1.mono b1.size)
      have y0 := Grd.carry HX0.out hbX
      have y1 := Grd.carry HX1.out hbX
      obtain ⟨h0, h1, h2, hf⟩ := Grd.cells3 y0
      have hf0 := hf 0
      have hf1 := hf 1
      have hf2 := hf 2
      have HO : Hid (OwnG V V0.heap.size (.slice na n nc) (wipeRow s.sb row a b)) := ho
      have HB1 : Hid (Below X.heap.size X V0) := b1
      have HY0 : Hid (V.heap[W1.heap.size]? = _) := y0
      have HY1 : Hid (V.heap[W1.heap.size + 1]? = _) := y1
      have HBV : Hid (Below X.heap.size X V) := hbX
      clear ho k1 hf y0 y1 hbX m0 m1 m2 b1
      go_wp2_with fail
      refine hK.out _ _ e2 (fun hHeld => ?_)
      clear hK K
      (try simp only [Act.put, List.setIfInBounds_toArray, List.set_cons_zero, List.set_cons_succ])
      refine wpAnyH_take (i := 9) (oi := _) (v := ?_) rfl (by kernel_rfl) (by kernel_rfl) (by kernel_rfl) (fun _ _ _ h => h) (Or.inl ⟨by rfl, ?_⟩) hHeld ?_
      rotate_left
      · intro w hSw
        (try dsimp only at hSw)
        go_simp
        (try with_reducible rfl)
      (try simp only [Act.put, List.setIfInBounds_toArray, List.set_cons_zero, List.set_cons_succ])
      refine wpAnyH_take (i := 10) (oi := _) (v := ?_) rfl (by kernel_rfl) (by kernel_rfl) (by kernel_rfl) (fun _ _ _ h => h) (Or.inl ⟨by rfl, ?_⟩) hHeld ?_
      rotate_left
      · intro w hSw
        (try dsimp only at hSw)
        go_simp
        (try with_reducible rfl)
      (try simp only [Act.put, List.setIfInBounds_toArray, List.set_cons_zero, List.set_cons_succ])
      refine wpAnyH_take (i := 11) (oi := _) (v := ?_) rfl (by kernel_rfl) (by kernel_rfl) (by kernel_rfl) (fun _ _ _ h => h) (Or.inl ⟨by rfl, ?_⟩) hHeld ?_
      rotate_left
      · intro w hSw
        (try dsimp only at hSw)
        go_simp
        (try with_reducible rfl)
      (try simp only [Act.put, List.setIfInBounds_toArray, List.set_cons_zero, List.set_cons_succ])
      refine wpAnyH_ready (rs := [12]) (by kernel_rfl) (by simp) ?_
      refine AllReadyH.cons (o := _) rfl (fun K hK => ?_) AllReadyH.nil
      go_simp
      refine hK.out _ _ e3 (fun hHeld => ?_)
      clear hK K
      (try simp only [Act.put, List.setIfInBounds_toArray, List.set_cons_zero, List.set_cons_succ])
      refine wpAnyH_done (by kernel_rfl) ?_ _
      refine NoPanic.normal ?_
      go_wp2_with fail
      go_meet
      have hX := HKB.out.size
      have hl0 := heap_lt HX0.out
      have hl1 := heap_lt HX1.out
      have hb1 := HB1.out.size
      refine ⟨_, three_at HY0.out, (three_off (by omega)).trans HY1.out, own_three (own_low HO.out hb1) (by omega), below_three (HKB.out.trans (HBV.out.mono hX)) (Nat.le_refl _)⟩
    · go_simp
      refine (HBL.out _ (HKB.out.trans (b0.mono HKB.out.size)) e0.2.2.2).mono ?_
      rintro e V0 ⟨rfl, k0⟩
      have e1 : (fun w' => w'.cell? ⟨Bf, 0, none⟩ = some (.int .i64 (a : Int)) ∧ w'.cell? ⟨Be, 0, none⟩ = some (.int .i64 (b : Int)) ∧ w'.cell? ⟨Bp, 0, none⟩ = some (.pointer (some ⟨p, 0, none⟩)) ∧ w'.cell? ⟨p, 7, none⟩ = some (.int .i64 s.sb)) V0 := ⟨cell_stay k0 e0.1, cell_stay k0 e0.2.1, cell_stay k0 e0.2.2.1, cell_stay k0 e0.2.2.2⟩
      have b1 : Below X.heap.size X V0 := b0.trans (k0.mono b0.size)
      have z0' := Grd.carry HX0.out b1
      obtain ⟨m0, m1, m2, -⟩ := Grd.cells3 z0'
      clear k0 z0'
      go_wp2_with fail
      refine hK.out _ _ e1 (fun hHeld => ?_)
      clear hK K
      (try simp only [Act.put, List.setIfInBounds_toArray, List.set_cons_zero, List.set_cons_succ])
      refine wpAnyH_ready (rs := [0]) (by kernel_rfl) (by simp) ?_
      refine AllReadyH.cons (o := _) rfl (fun K hK => ?_) AllReadyH.nil
      go_simp
      refine hK.out _ _ e1 (fun hHeld => ?_)
      clear hK K
      (try simp only [Act.put, List.setIfInBounds_toArray, List.set_cons_zero, List.set_cons_succ])
      refine wpAnyH_ready (rs := [8]) (by kernel_rfl) (by simp) ?_
      refine AllReadyH.cons (o := _) rfl (fun K hK => ?_) AllReadyH.nil
      go_simp
      refine (HFL.out _ (HKB.out.trans (b1.mono HKB.out.size))).mono ?_
      rintro e V ⟨v', rfl, ho, k1⟩
      obtain ⟨na, nc, hsh⟩ : ∃ na nc, v' = .slice na n nc := by
        obtain ⟨g, cap, rest, t, hv, -⟩ := ho
        rw [HPL.out, HRN.out] at hv
        exact ⟨_, _, hv⟩
      subst hsh
      have e2 : (fun w' => w'.cell? ⟨Bf, 0, none⟩ = some (.int .i64 (a : Int)) ∧ w'.cell? ⟨Be, 0, none⟩ = some (.int .i64 (b : Int)) ∧ w'.cell? ⟨Bp, 0, none⟩ = some (.pointer (some ⟨p, 0, none⟩)) ∧ w'.cell? ⟨p, 7, none⟩ = some (.int .i64 s.sb)) V := ⟨cell_stay k1 e1.1, cell_stay k1 e1.2.1, cell_stay k1 e1.2.2.1, cell_stay k1 e1.2.2.2⟩
      have e3 : (fun w' => w'.cell? ⟨Bf, 0, none⟩ = some (.int .i64 (a : Int)) ∧ w'.cell? ⟨Be, 0, none⟩ = some (.int .i64 (b : Int)) ∧ w'.cell? ⟨Bp, 0, none⟩ = some (.pointer (some ⟨p, 0, none⟩)) ∧ w'.cell? ⟨p, 7, none⟩ = some (.int .i64 s.sb)) (((V.setCell ⟨W1.heap.size, 0, none⟩ (.int .i64 (n : Int))).setCell ⟨W1.heap.size, 1, none⟩ (.int .i64 1)).setCell ⟨W1.heap.size, 2, none⟩ (.slice na n nc)) := ⟨(cells_three_off NE.out.1).trans e2.1, (cells_three_off NE.out.2.1).trans e2.2.1, (cells_three_off NE.out.2.2.1).trans e2.2.2.1, (cells_three_off NE.out.2.2.2).trans e2.2.2.2⟩
      have hbX : Below X.heap.size X V := b1.trans (k1.mono b1.size)
      have y0 := Grd.carry HX0.out hbX
      have y1 := Grd.carry HX1.out hbX
      obtain ⟨h0, h1, h2, hf⟩ := Grd.cells3 y0
      have hf0 := hf 0
      have hf1 := hf 1
      have hf2 := hf 2
      have HO : Hid (OwnG V V0.heap.size (.slice na n nc) (wipeRow s.sb row a b)) := ho
      have HB1 : Hid (Below X.heap.size X V0) := b1
      have HY0 : Hid (V.heap[W1.heap.size]? = _) := y0
      have HY1 : Hid (V.heap[W1.heap.size + 1]? = _) := y1
      have HBV : Hid (Below X.heap.size X V) := hbX
      clear ho k1 hf y0 y1 hbX m0 m1 m2 b1
      go_wp2_with fail
      refine hK.out _ _ e2 (fun hHeld => ?_)
      clear hK K
      (try simp only [Act.put, List.setIfInBounds_toArray, List.set_cons_zero, List.set_cons_succ])
      refine wpAnyH_take (i := 9) (oi := _) (v := ?_) rfl (by kernel_rfl) (by kernel_rfl) (by kernel_rfl) (fun _ _ _ h => h) (Or.inl ⟨by rfl, ?_⟩) hHeld ?_
      rotate_left
      · intro w hSw
        (try dsimp only at hSw)
        go_simp
        (try with_reducible rfl)
      (try simp only [Act.put, List.setIfInBounds_toArray, List.set_cons_zero, List.set_cons_succ])
      refine wpAnyH_take (i := 10) (oi := _) (v := ?_) rfl (by kernel_rfl) (by kernel_rfl) (by kernel_rfl) (fun _ _ _ h => h) (Or.inl ⟨by rfl, ?_⟩) hHeld ?_
      rotate_left
      · intro w hSw
        (try dsimp only at hSw)
        go_simp
        (try with_reducible rfl)
      (try simp only [Act.put, List.setIfInBounds_toArray, List.set_cons_zero, List.set_cons_succ])
      refine wpAnyH_take (i := 11) (oi := _) (v := ?_) rfl (by kernel_rfl) (by kernel_rfl) (by kernel_rfl) (fun _ _ _ h => h) (Or.inl ⟨by rfl, ?_⟩) hHeld ?_
      rotate_left
      · intro w hSw
        (try dsimp only at hSw)
        go_simp
        (try with_reducible rfl)
      (try simp only [Act.put, List.setIfInBounds_toArray, List.set_cons_zero, List.set_cons_succ])
      refine wpAnyH_ready (rs := [12]) (by kernel_rfl) (by simp) ?_
      refine AllReadyH.cons (o := _) rfl (fun K hK => ?_) AllReadyH.nil
      go_simp
      refine hK.out _ _ e3 (fun hHeld => ?_)
      clear hK K
      (try simp only [Act.put, List.setIfInBounds_toArray, List.set_cons_zero, List.set_cons_succ])
      refine wpAnyH_done (by kernel_rfl) ?_ _
      refine NoPanic.normal ?_
      go_wp2_with fail
      go_meet
      have hX := HKB.out.size
      have hl0 := heap_lt HX0.out
      have hl1 := heap_lt HX1.out
      have hb1 := HB1.out.size
      refine ⟨_, three_at HY0.out, (three_off (by omega)).trans HY1.out, own_three (own_low HO.out hb1) (by omega), below_three (HKB.out.trans (HBV.out.mono hX)) (Nat.le_refl _)⟩
  case rest =>
    obtain ⟨v, hx0, hx1, ho, hb⟩ := hcut
    obtain ⟨g0', g1', g2', -⟩ := Grd.cells3 hx0
    obtain ⟨h0, h1, h2, hf⟩ := Grd.cells3 hx1
    have hf0 := hf 0
    have hf1 := hf 1
    have hf2 := hf 2
    obtain ⟨na, nc, hsh⟩ : ∃ na nc, v = .slice na n nc := by
      obtain ⟨g, cap, rest, t, hv, -⟩ := ho
      rw [HPL.out, HRN.out] at hv
      exact ⟨_, _, hv⟩
    subst hsh
    have HO : Hid (OwnG wc X.heap.size (.slice na n nc) (wipeRow s.sb row a b)) := ho
    have HB : Hid (Below W1.heap.size W1 wc) := hb
    have HY1 : Hid _ := hx1
    have hl1 := heap_lt HX1.out
    clear ho hb hx0 hx1 hf e0 g0 g1 g2 gf q1 q2 q3 c7
    go_wp2_with (first
      | (refine wpList_store_row rfl 24 (.tmp 5) _ rfl (W1.heap.size + 1) #[.int .i64 (n : Int), .int .i64 1, .slice na n nc] rfl rfl _ _ HY1.out (by kernel_rfl) rfl (Grd.one3v _ _ _ _ _) ?_))
    (try simp only [Exit.inBlock, Exit.then])
    refine bodyPost_ret (v := .agg #[.int .i64 (n : Int), .int .i64 1, .slice na n nc]) ?_ rfl ⟨na, nc, by rw [HPL.out, HRN.out], ?_, below_setRow HB.out (by omega) _⟩
    · exact results_cell_row rfl _ _ (W1.heap.size + 1) _ _ _ _ rfl (setRow_heap _ _ _ _ _ _ HY1.out) Tryd.underlying24 rfl (by kernel_rfl)
    · obtain ⟨g, hg, hR⟩ := own_rowB HO.out
      obtain ⟨cap, rest, hv, i1, i2, i3⟩ := hR
      rw [HPL.out, HRN.out]
      refine rowIn_rowB (g := g) ⟨cap, rest, hv, i1, i2, ?_⟩
      rw [setRow_other _ _ _ _ (by omega)]
      exact i3
end Put
end Go.Proofs.YtdnglbgdoemejaaDoor

/- (*sheet.Sheet).Write. -/
namespace Go.Proofs.YtdnglbgdoemejaaDoor
open Go.ChangeShapes Go.WideShapes Go.ChangeAt Go.RowKit
namespace Put
open Grd (C SliceAt CellsAt gridErr z0 nilV flat rowsL OwnG RowB)
open Sty (isSt)
open Txt (wd)
theorem cell_one' {W : World} {R : Nat} {v : Value} {t : TypeId} (h : W.heap[R]? = some (.cells #[v] t (0, 0))) : W.cell? ⟨R, 0, none⟩ = some v := by simp [World.cell?, h]
theorem other_ptr : Other 68 := by unfold Other; decide
theorem plain_write : Plain 102 := by
  intro args W
  kernel_rfl
set_option maxHeartbeats 4000000 in
set_option maxRecDepth 100000 in
theorem write_any (W : World) (M N p : Nat) (s : Scr) (rows : List (List C)) (hT : Txt.Tab W) (hSt : ShAt 70 W M N p s rows) (r : Int)
    (n x y : Nat) (hy : y < rows.length) (row : List C) (hrow : rows.getD y [] = row) (hw : s.w = n) (hx : s.x = x) (hyy : s.y = y) (hxn : x < n) (hrn : row.length = n) (hz : gridErr n 1 row = 0) (hst : isSt (s.sf, s.sb, s.sx) = true) (hr : wd r ≠ 0) (hfit : wd r ≤ (n : Int) - x) :
    Calls Tryd.prog 80 #[.pointer (some ⟨p, 0, none⟩), .int .i32 r] W (Ran W M N p s (rows.set y (putRune (s.sf, s.sb, s.sx) row x r))) := by
  obtain ⟨cv, tv, gv, rv, gvs, vs, hS⟩ := hSt
  have kb : Below W.heap.size W ((W.alloc (.cells #[.pointer (some ⟨p, 0, none⟩)] 68)).alloc (.cells #[.int .i32 r] 21)) := ((Below.refl _ _).alloc (Nat.le_refl _) _).alloc (by simp) _
  have hx0 : ((W.alloc (.cells #[.pointer (some ⟨p, 0, none⟩)] 68)).alloc (.cells #[.int .i32 r] 21)).heap[W.heap.size]? = some (.cells #[.pointer (some ⟨p, 0, none⟩)] 68 (0, 0)) := (Below.heap_alloc _ _ _ (by simp)).trans (heap_alloc_new _ _)
  have hx1 : ((W.alloc (.cells #[.pointer (some ⟨p, 0, none⟩)] 68)).alloc (.cells #[.int .i32 r] 21)).heap[W.heap.size + 1]? = some (.cells #[.int .i32 r] 21 (0, 0)) := heap_alloc2_new W _ _
  have HA : Hid (∀ X, Below W.heap.size W X → X.cell? ⟨W.heap.size, 0, none⟩ = some (.pointer (some ⟨p, 0, none⟩)) → X.cell? ⟨W.heap.size + 1, 0, none⟩ = some (.int .i32 r) → Calls Tryd.prog 85 #[.pointer (some ⟨p, 0, none⟩), .int .i64 (y : Int), .func (.func 102) #[] #[.pointer (some ⟨W.heap.size, 0, none⟩), .pointer (some ⟨W.heap.size + 1, 0, none⟩)]] X (Ran X M N p s (rows.set y (putRune (s.sf, s.sb, s.sx) row x r)))) := fun X hX q1 q2 =>
    alter_any X M N p s rows cv tv gv rv gvs vs (hS.next hX) y hy _ plain_write _ _ (write1_alters X M N p _ _ s rows cv tv gv rv gvs vs (Grd.Tab.next hT hX) (hS.next hX) q1 r q2 n x y hy row hrow hw hx hxn hrn hz hst hr hfit)
  have hS1 := hS.next kb
  obtain ⟨⟨-, -, -, -, c4, -⟩, -, -⟩ := sh_cells hS1.blk
  rw [hyy] at c4
  have HYY : Hid (s.y = y) := hyy
  have HP0 : Hid _ := hx0
  have q1 := cell_one' hx0
  have q2 := cell_one' hx1
  have HKB : Hid _ := kb
  have hNW : N ≤ W.heap.size := by have := hS.lo; have := heap_lt hS.blk; omega
  clear hS hS1 hT hrow hw hx hyy hz hst hr hfit kb hx0 hx1
  go_enter Tryd.func80, Tryd.ntmps80
  go_upto_region 1 with fail
  generalize ((W.alloc (.cells #[.pointer (some ⟨p, 0, none⟩)] 68)).alloc (.cells #[.int .i32 r] 21)) = X at *
  have e0 : (fun w' => w'.cell? ⟨W.heap.size, 0, none⟩ = some (.pointer (some ⟨p, 0, none⟩)) ∧ w'.cell? ⟨p, 4, none⟩ = some (.int .i64 (y : Int))) X.drew := ⟨q1, c4⟩
  go_region_held3 (fun w' => w'.cell? ⟨W.heap.size, 0, none⟩ = some (.pointer (some ⟨p, 0, none⟩)) ∧ w'.cell? ⟨p, 4, none⟩ = some (.int .i64 (y : Int)))
    (first | exact e1 | exact e0)
    (first | (go_at_call 85; refine (HA.out _ (HKB.out.drew) q1 q2).mono ?_; rintro e V ⟨rfl, hSV, hBV, hFV⟩; have e1 : (fun w' => w'.cell? ⟨W.heap.size, 0, none⟩ = some (.pointer (some ⟨p, 0, none⟩)) ∧ w'.cell? ⟨p, 4, none⟩ = some (.int .i64 (y : Int))) V := ⟨(hFV.cell (W := X.drew) HP0.out other_ptr).trans q1, by obtain ⟨cv', tv', gv', rv', gvs', vs', hs'⟩ := hSV; obtain ⟨⟨-, -, -, -, d4, -⟩, -, -⟩ := sh_cells hs'.blk; rw [HYY.out] at d4; exact d4⟩; have HSV : Hid _ := hSV; have HBV : Hid _ := hBV; have HFV : Hid _ := hFV; clear hSV hBV hFV))
  go_end0
  exact ⟨rfl, HSV.out, ((HKB.out.mono hNW).drew).trans HBV.out, (Framed.of_below (HKB.out.drew)).trans HFV.out⟩
end Put
end Go.Proofs.YtdnglbgdoemejaaDoor

/- (*sheet.Sheet).Clear. -/
namespace Go.Proofs.YtdnglbgdoemejaaDoor
open Go.ChangeShapes Go.WideShapes Go.ChangeAt Go.RowKit
namespace Put
open Grd (C SliceAt CellsAt gridErr z0 nilV flat rowsL OwnG RowB)
open Sty (isSt)
theorem plain_clear : Plain 86 := by
  intro args W
  kernel_rfl
set_option maxHeartbeats 4000000 in
set_option maxRecDepth 100000 in
theorem clear_any (W : World) (M N p : Nat) (s : Scr) (rows : List (List C)) (hT : Txt.Tab W) (hSt : ShAt 70 W M N p s rows)
    (n y a b : Nat) (hy : y < rows.length) (row : List C) (hrow : rows.getD y [] = row) (hw : s.w = n) (hn1 : 1 ≤ n) (hn2 : n ≤ 120) (hrn : row.length = n) (hz : gridErr n 1 row = 0) (hst : isSt (0, s.sb, 0) = true) (ha : a ≤ n) (hb : b ≤ n) :
    Calls Tryd.prog 73 #[.pointer (some ⟨p, 0, none⟩), .int .i64 (y : Int), .int .i64 (a : Int), .int .i64 (b : Int)] W (Ran W M N p s (rows.set y (wipeRow s.sb row a b))) := by
  obtain ⟨cv, tv, gv, rv, gvs, vs, hS⟩ := hSt
  have kb : Below W.heap.size W (((W.alloc (.cells #[.pointer (some ⟨p, 0, none⟩)] 68)).alloc (.cells #[.int .i64 (a : Int)] 3)).alloc (.cells #[.int .i64 (b : Int)] 3)) := (((Below.refl _ _).alloc (Nat.le_refl _) _).alloc (by simp) _).alloc (by simp; omega) _
  obtain ⟨hx0, hx1, hx2, -⟩ := Grd.alloc3 W (.cells #[.pointer (some ⟨p, 0, none⟩)] 68) (.cells #[.int .i64 (a : Int)] 3) (.cells #[.int .i64 (b : Int)] 3)
  have HA : Hid (∀ X, Below W.heap.size W X → X.cell? ⟨W.heap.size, 0, none⟩ = some (.pointer (some ⟨p, 0, none⟩)) → X.cell? ⟨W.heap.size + 1, 0, none⟩ = some (.int .i64 (a : Int)) → X.cell? ⟨W.heap.size + 2, 0, none⟩ = some (.int .i64 (b : Int)) → Calls Tryd.prog 85 #[.pointer (some ⟨p, 0, none⟩), .int .i64 (y : Int), .func (.func 86) #[] #[.pointer (some ⟨W.heap.size + 1, 0, none⟩), .pointer (some ⟨W.heap.size + 2, 0, none⟩), .pointer (some ⟨W.heap.size, 0, none⟩)]] X (Ran X M N p s (rows.set y (wipeRow s.sb row a b)))) := fun X hX q1 q2 q3 =>
    alter_any X M N p s rows cv tv gv rv gvs vs (hS.next hX) y hy _ plain_clear _ _ (clear1_alters X M N p _ _ _ s rows cv tv gv rv gvs vs (Grd.Tab.next hT hX) (hS.next hX) n y a b q2 q3 q1 hy row hrow hw hn1 hn2 hrn hz hst ha hb)
  have HP0 : Hid _ := hx0
  have q1 := cell_one' hx0
  have q2 := cell_one' hx1
  have q3 := cell_one' hx2
  have HKB : Hid _ := kb
  have hNW : N ≤ W.heap.size := by have := hS.lo; have := heap_lt hS.blk; omega
  clear hS hT hrow hw hz hst kb hx0 hx1 hx2
  go_enter Tryd.func73, Tryd.ntmps73
  go_upto_region 1 with fail
  generalize (((W.alloc (.cells #[.pointer (some ⟨p, 0, none⟩)] 68)).alloc (.cells #[.int .i64 (a : Int)] 3)).alloc (.cells #[.int .i64 (b : Int)] 3)) = X at *
  go_wp2_with fail
  refine (HA.out _ HKB.out q1 q2 q3).mono ?_
  rintro e V ⟨rfl, hSV, hBV, hFV⟩
  have HSV : Hid _ := hSV
  have HBV : Hid _ := hBV
  have HFV : Hid _ := hFV
  clear hSV hBV hFV q1 q2 q3
  go_wp2_with fail
  go_end0
  exact ⟨rfl, HSV.out, (HKB.out.mono hNW).trans HBV.out, (Framed.of_below HKB.out).trans HFV.out⟩
end Put
end Go.Proofs.YtdnglbgdoemejaaDoor

/- Package wipe: span, clearLine, clearRows, and the closures that use them. -/
namespace Go.Proofs.YtdnglbgdoemejaaDoor
open Go.ChangeShapes Go.WideShapes Go.ChangeAt Go.RowKit
namespace Put
open Grd (C SliceAt CellsAt gridErr z0 nilV flat rowsL RightRow)
open Sty (isSt)
/-- Rows that are right ones, so wide. -/
def RightRows (n : Nat) (rows : List (List C)) : Prop := ∀ i, i < rows.length → (rows.getD i []).length = n ∧ RightRow (rows.getD i [])
theorem rightRows_of {s : Scr} {n hh : Nat} (h : RightS s n hh) : RightRows n (rowsL n s.cs hh) := fun i hi => by
  rw [Grd.rowsL_len] at hi
  have e2 : (rowsL n s.cs hh).getD i [] = Grd.rowAt n s.cs i := by simp [rowsL, List.getD, hi]
  rw [e2]
  exact ⟨Grd.row_len n hh s.cs i h.cl hi, ((Grd.gridErr_zero n hh s.cs).1 h.gz).2.2 i hi⟩
theorem RightRows.set {n : Nat} {rows : List (List C)} (h : RightRows n rows) (k : Nat) (row : List C) (hl : row.length = n) (hr : RightRow row) : RightRows n (rows.set k row) := fun i hi => by
  rw [List.length_set] at hi
  by_cases e : i = k
  · subst e
    rw [getD_set_same _ _ _ _ hi]
    exact ⟨hl, hr⟩
  · rw [getD_set_ne _ _ _ _ _ e]
    exact h i hi
theorem one_row (n : Nat) (row : List C) (hn1 : 1 ≤ n) (hn2 : n ≤ 120) (hl : row.length = n) (hr : RightRow row) : gridErr n 1 row = 0 := by
  refine (Grd.gridErr_zero n 1 row).2 ⟨?_, by omega, fun y hy => ?_⟩
  · simp [Grd.isSize]
    omega
  · have e : y = 0 := by omega
    subst e
    have e2 : Grd.rowAt n row 0 = row := by
      unfold Grd.rowAt
      rw [Nat.zero_mul, List.drop_zero, List.take_of_length_le (by omega)]
    rw [e2]
    exact hr
theorem back_style {s : Scr} {n hh : Nat} (h : RightS s n hh) : isSt (0, s.sb, 0) = true := by
  have h1 := h.looks
  simp only [looksOk, Bool.and_eq_true] at h1
  have h2 := h1.1
  simp only [isSt, decide_eq_true_eq] at h2 ⊢
  omega
/-- From where, and up to where. -/
def spanA (k : Int) (at' size : Nat) : Nat × Nat := if k ≤ 0 then (at', size) else if k = 1 then (0, at' + 1) else if k = 2 then (0, size) else (0, 0)
theorem span_any (k : Int) (x n : Nat) (hx : x ≤ 120) (w : World) : Calls Tryd.prog 72 #[.int .i64 k, .int .i64 (x : Int), .int .i64 (n : Int)] w fun e w' => e = .returned (.tuple #[.int .i64 ((spanA k x n).1 : Nat), .int .i64 ((spanA k x n).2 : Nat)]) ∧ w = w' := by
  by_cases k0 : k ≤ 0
  · have e : spanA k x n = (x, n) := by unfold spanA; rw [if_pos k0]
    rw [e]
    clear e
    go_enter Tryd.func72, Tryd.ntmps72
    go_wp2_with fail
    go_ret2
    exact ⟨rfl, rfl⟩
  · by_cases k1 : k = 1
    · have e : spanA k x n = (0, x + 1) := by unfold spanA; rw [if_neg k0, if_pos k1]
      rw [e]
      clear e k0
      subst k1
      go_enter Tryd.func72, Tryd.ntmps72
      go_wp2_with fail
      go_ret2
      exact ⟨rfl, rfl⟩
    · by_cases k2 : k = 2
      · have e : spanA k x n = (0, n) := by unfold spanA; rw [if_neg k0, if_neg k1, if_pos k2]
        rw [e]
        clear e k0 k1
        subst k2
        go_enter Tryd.func72, Tryd.ntmps72
        go_wp2_with fail
        go_ret2
        exact ⟨rfl, rfl⟩
      · have e : spanA k x n = (0, 0) := by unfold spanA; rw [if_neg k0, if_neg k1, if_neg k2]
        have q1 : (k == 1) = false := by rw [beq_eq_false_iff_ne]; exact k1
        have q2 : (k == 2) = false := by rw [beq_eq_false_iff_ne]; exact k2
        rw [e]
        clear e k1 k2
        go_enter Tryd.func72, Tryd.ntmps72
        go_wp2_with fail
        go_ret2
        exact ⟨rfl, rfl⟩
theorem span_le (k : Int) (x n : Nat) (hx : x < n) : (spanA k x n).1 ≤ n ∧ (spanA k x n).2 ≤ n := by
  unfold spanA
  split
  · exact ⟨by show x ≤ n; omega, Nat.le_refl _⟩
  · split
    · exact ⟨by show 0 ≤ n; omega, by show x + 1 ≤ n; omega⟩
    · split
      · exact ⟨by show 0 ≤ n; omega, Nat.le_refl _⟩
      · exact ⟨by show 0 ≤ n; omega, by show 0 ≤ n; omega⟩
/-- A row that a kind reaches, wiped. -/
def lineRow (s : Scr) (k : Int) (x n : Nat) (row : List C) : List C := wipeRow s.sb row (spanA k x n).1 (spanA k x n).2
set_option maxHeartbeats 4000000 in
theorem clearLine_any (W : World) (M N p : Nat) (s : Scr) (rows : List (List C)) (hT : Txt.Tab W) (hS : ShAt 70 W M N p s rows) (n y x : Nat) (k : Int) (hw : s.w = n) (hy : s.y = y) (hx : s.x = x) (hyl : y < rows.length) (hxn : x < n) (hn1 : 1 ≤ n) (hn2 : n ≤ 120) (hR : RightRows n rows) (hst : isSt (0, s.sb, 0) = true) :
    Calls Tryd.prog 50 #[.pointer (some ⟨p, 0, none⟩), .int .i64 k] W (Ran W M N p s (rows.set y (lineRow s k x n (rows.getD y [])))) := by
  obtain ⟨c0, c1, c3, c4, c5, c9, c10, c11, c19, f⟩ := hS.words
  have hsp := span_le k x n hxn
  have HSP : Hid (∀ W, Calls Tryd.prog 72 #[.int .i64 k, .int .i64 (x : Int), .int .i64 (n : Int)] W fun e w' => e = .returned (.tuple #[.int .i64 ((spanA k x n).1 : Nat), .int .i64 ((spanA k x n).2 : Nat)]) ∧ W = w') := fun W => span_any k x n (by omega) W
  have HCL : Hid (∀ V, Below W.heap.size W V → Calls Tryd.prog 73 #[.pointer (some ⟨p, 0, none⟩), .int .i64 (y : Int), .int .i64 ((spanA k x n).1 : Nat), .int .i64 ((spanA k x n).2 : Nat)] V (Ran V M N p s (rows.set y (lineRow s k x n (rows.getD y []))))) := fun V hV => clear_any V M N p s rows (Grd.Tab.next hT hV) (hS.next hV) n y _ _ hyl _ rfl hw hn1 hn2 (hR y hyl).1 (one_row n _ hn1 hn2 (hR y hyl).1 (hR y hyl).2) hst hsp.1 hsp.2
  have hNW : N ≤ W.heap.size := by
    obtain ⟨_, _, _, _, _, _, hA⟩ := hS
    have := hA.lo
    have := heap_lt hA.blk
    omega
  rw [hw] at c0
  rw [hx] at c3
  rw [hy] at c4
  clear c1 c5 c9 c10 c11 c19 f hT hS hR hsp hw hx hy
  generalize (spanA k x n).1 = a at *
  generalize (spanA k x n).2 = b at *
  generalize rows.set y (lineRow s k x n (rows.getD y [])) = rows' at *
  go_enter Tryd.func50, Tryd.ntmps50
  go_upto_region 0 with fail
  go_region_held3 (fun w' => w'.cell? ⟨p, 3, none⟩ = some (.int .i64 (x : Int)) ∧ w'.cell? ⟨p, 0, none⟩ = some (.int .i64 (n : Int))) (go_keep) (first | (go_at_call 72; refine (HSP.out _).mono ?_; rintro e V ⟨rfl, hv⟩; subst hv))
  go_wp2_with fail
  refine (HCL.out _ ((Below.refl _ _).drew)).mono ?_
  rintro e V ⟨rfl, hSV, hBV, hFV⟩
  have HSV : Hid _ := hSV
  have HBV : Hid (Below N W V) := ((Below.refl _ _).drew).trans hBV
  have HFV : Hid (Framed W V) := (Framed.of_below ((Below.refl _ _).drew)).trans hFV
  clear hSV hBV hFV
  go_wp2_with fail
  go_end0
  exact ⟨rfl, HSV.out, HBV.out, HFV.out⟩
/-- Rows from one up to another, but not that of the cursor, blank. -/
def wipeTo (rows : List (List C)) (n : Nat) (bk : Int) (a k y : Nat) : List (List C) := (List.range rows.length).map fun i => if a ≤ i ∧ i < k ∧ i ≠ y then List.replicate n (32, 0, bk, 0) else rows.getD i []
theorem wipeTo_len (rows : List (List C)) (n : Nat) (bk : Int) (a k y : Nat) : (wipeTo rows n bk a k y).length = rows.length := by simp [wipeTo]
theorem wipeTo_get (rows : List (List C)) (n : Nat) (bk : Int) (a k y i : Nat) (hi : i < rows.length) : (wipeTo rows n bk a k y).getD i [] = if a ≤ i ∧ i < k ∧ i ≠ y then List.replicate n (32, 0, bk, 0) else rows.getD i [] := by
  simp [wipeTo, List.getD, hi]
theorem rows_ext {a b : List (List C)} (hl : a.length = b.length) (h : ∀ i, i < a.length → a.getD i [] = b.getD i []) : a = b := by
  apply List.ext_getElem hl
  intro i h1 h2
  have := h i h1
  simpa [List.getD, h1, h2] using this
theorem wipeTo_start (rows : List (List C)) (n : Nat) (bk : Int) (a y : Nat) : wipeTo rows n bk a a y = rows := by
  refine rows_ext (wipeTo_len _ _ _ _ _ _) fun i hi => ?_
  rw [wipeTo_len] at hi
  rw [wipeTo_get _ _ _ _ _ _ _ hi, if_neg (by omega)]
theorem wipeTo_same (rows : List (List C)) (n : Nat) (bk : Int) (a k : Nat) : wipeTo rows n bk a (k + 1) k = wipeTo rows n bk a k k := by
  refine rows_ext (by rw [wipeTo_len, wipeTo_len]) fun i hi => ?_
  rw [wipeTo_len] at hi
  rw [wipeTo_get _ _ _ _ _ _ _ hi, wipeTo_get _ _ _ _ _ _ _ hi]
  by_cases h : a ≤ i ∧ i < k ∧ i ≠ k
  · rw [if_pos h, if_pos (by omega)]
  · rw [if_neg h, if_neg (by omega)]
theorem wipeTo_next (rows : List (List C)) (n : Nat) (bk : Int) (a k y : Nat) (hk : k < rows.length) (ha : a ≤ k) (hy : k ≠ y) : (wipeTo rows n bk a k y).set k (List.replicate n (32, 0, bk, 0)) = wipeTo rows n bk a (k + 1) y := by
  refine rows_ext (by rw [List.length_set, wipeTo_len, wipeTo_len]) fun i hi => ?_
  rw [List.length_set, wipeTo_len] at hi
  by_cases e : i = k
  · subst e
    rw [getD_set_same _ _ _ _ (by rw [wipeTo_len]; exact hi), wipeTo_get _ _ _ _ _ _ _ hi, if_pos (by omega)]
  · rw [getD_set_ne _ _ _ _ _ e, wipeTo_get _ _ _ _ _ _ _ hi, wipeTo_get _ _ _ _ _ _ _ hi]
    by_cases h : a ≤ i ∧ i < k ∧ i ≠ y
    · rw [if_pos h, if_pos (by omega)]
    · rw [if_neg h, if_neg (by omega)]
theorem blank_right (n : Nat) (bk : Int) (hs : isSt (0, bk, 0) = true) : RightRow (List.replicate n ((32, 0, bk, 0) : C)) := by
  have h := wipe_right bk (List.replicate n ((32, 0, 0, 0) : C)) 0 n (Grd.replicate_right n) hs
  rw [wipe_whole bk _ n (by rw [List.length_replicate]; exact Nat.le_refl _), List.length_replicate] at h
  exact h
theorem wipeTo_right (rows : List (List C)) (n : Nat) (bk : Int) (a k y : Nat) (h : RightRows n rows) (hs : isSt (0, bk, 0) = true) : RightRows n (wipeTo rows n bk a k y) := fun i hi => by
  rw [wipeTo_len] at hi
  rw [wipeTo_get _ _ _ _ _ _ _ hi]
  split
  · exact ⟨List.length_replicate, blank_right n bk hs⟩
  · exact h i hi
set_option maxHeartbeats 4000000 in
theorem clearRows_any (W : World) (M N p : Nat) (s : Scr) (rows : List (List C)) (hT : Txt.Tab W) (hTN : 0 < N) (hS : ShAt 70 W M N p s rows) (n hh y : Nat) (k : Int) (hw : s.w = n) (hh' : s.h = hh) (hy : s.y = y) (hrl : rows.length = hh) (hyl : y < hh) (hhl : hh ≤ 60) (hn1 : 1 ≤ n) (hn2 : n ≤ 120) (hR : RightRows n rows) (hst : isSt (0, s.sb, 0) = true) :
    Calls Tryd.prog 51 #[.pointer (some ⟨p, 0, none⟩), .int .i64 k] W (Ran W M N p s (wipeTo rows n s.sb (spanA k y hh).1 (spanA k y hh).2 y)) := by
  obtain ⟨c0, c1, c3, c4, c5, c9, c10, c11, c19, f⟩ := hS.words
  have hsp := span_le k y hh hyl
  have HSP : Hid (∀ W, Calls Tryd.prog 72 #[.int .i64 k, .int .i64 (y : Int), .int .i64 (hh : Int)] W fun e w' => e = .returned (.tuple #[.int .i64 ((spanA k y hh).1 : Nat), .int .i64 ((spanA k y hh).2 : Nat)]) ∧ W = w') := fun W => span_any k y hh (by omega) W
  have hmono : (spanA k y hh).1 ≤ (spanA k y hh).2 := by
    unfold spanA
    split
    · show y ≤ hh
      omega
    · split
      · show 0 ≤ y + 1
        omega
      · split
        · show 0 ≤ hh
          omega
        · exact Nat.le_refl _
  rw [hh'] at c1
  rw [hy] at c4
  have HSW : Hid (s.w = n ∧ s.y = y) := ⟨hw, hy⟩
  have HRR : Hid (RightRows n rows) := hR
  have HT : Hid (Txt.Tab W) := hT
  have HS : Hid (ShAt 70 W M N p s rows) := hS
  clear c0 c3 c5 c9 c10 c11 c19 f hT hS hR hw hh' hy
  generalize (spanA k y hh).1 = a at *
  generalize (spanA k y hh).2 = b at *
  go_enter Tryd.func51, Tryd.ntmps51
  go_upto_region 0 with fail
  go_region_held3 (fun w' => w'.cell? ⟨p, 4, none⟩ = some (.int .i64 (y : Int)) ∧ w'.cell? ⟨p, 1, none⟩ = some (.int .i64 (hh : Int))) (go_keep) (first | (go_at_call 72; refine (HSP.out _).mono ?_; rintro e V ⟨rfl, hv⟩; subst hv))
  go_wp2_with fail
  clear c1 c4
  go_loopg [6] hh (fun q i wr => ∃ j : Nat, i = .int .i64 (j : Int) ∧ a ≤ j ∧ j ≤ b ∧ b - j ≤ q ∧ ShAt 70 wr M N p s (wipeTo rows n s.sb a j y) ∧ Below N W wr ∧ Framed W wr ∧ Txt.Tab wr)
  case atStart => exact ⟨a, rfl, Nat.le_refl _, hmono, by omega, by rw [wipeTo_start]; exact HS.out.drew, (Below.refl _ _).drew, Framed.of_below ((Below.refl _ _).drew), Grd.Tab.next HT.out ((Below.refl _ _).drew)⟩
  case round =>
    obtain ⟨j, rfl, hj1, hj2, hq, hSj, hBj, hFj, hTj⟩ := hrel
    by_cases hlt : j < b
    · have lt1 : (j : Int) < (b : Int) := by omega
      obtain ⟨c0, c1, c3, c4, c5, c9, c10, c11, c19, f⟩ := hSj.words
      rw [HSW.out.1] at c0
      rw [HSW.out.2] at c4
      have HBJ : Hid (Below N W wr) := hBj
      have HFJ : Hid (Framed W wr) := hFj
      have HTJ : Hid (Txt.Tab wr) := hTj
      have HSJ : Hid (ShAt 70 wr M N p s (wipeTo rows n s.sb a j y)) := hSj
      clear c1 c3 c5 c9 c10 c11 c19 f hSj hBj hFj hTj
      by_cases hjy : j = y
      · have hb : ((j : Int) != (y : Int)) = false := by rw [bne_eq_false_iff_eq]; omega
        have HJY : Hid (j = y) := hjy
        clear hjy
        go_wp2_with fail
        go_roundg (b - (j + 1))
        case measure => omega
        case rel =>
          refine ⟨j + 1, by go_num, by omega, by omega, by omega, ?_, HBJ.out, HFJ.out, HTJ.out⟩
          have h := HSJ.out
          rw [← HJY.out] at h ⊢
          rw [wipeTo_same]
          exact h
      · have hb : ((j : Int) != (y : Int)) = true := by rw [bne_iff_ne]; omega
        have HCL := clear_any wr M N p s _ HTJ.out HSJ.out n j 0 n (by rw [wipeTo_len]; omega) _ rfl HSW.out.1 hn1 hn2 (wipeTo_right rows n s.sb a j y HRR.out hst j (by rw [wipeTo_len]; omega)).1 (one_row n _ hn1 hn2 (wipeTo_right rows n s.sb a j y HRR.out hst j (by rw [wipeTo_len]; omega)).1 (wipeTo_right rows n s.sb a j y HRR.out hst j (by rw [wipeTo_len]; omega)).2) hst (Nat.zero_le _) (Nat.le_refl _)
        have hlen := (wipeTo_right rows n s.sb a j y HRR.out hst j (by rw [wipeTo_len]; omega)).1
        rw [wipe_whole s.sb _ n (by omega), hlen, wipeTo_next rows n s.sb a j y (by omega) hj1 hjy] at HCL
        clear hjy hlen
        go_wp2_with fail
        refine HCL.mono ?_
        rintro e V ⟨rfl, hSV, hBV, hFV⟩
        have HSV : Hid _ := hSV
        have HBV : Hid (Below N W V) := HBJ.out.trans hBV
        have HFV : Hid (Framed W V) := HFJ.out.trans hFV
        have HTV : Hid (Txt.Tab V) := HTJ.out.below hBV hTN
        clear hSV hBV hFV HCL
        go_wp2_with fail
        go_roundg (b - (j + 1))
        case measure => omega
        case rel => exact ⟨j + 1, by go_num, by omega, by omega, by omega, HSV.out, HBV.out, HFV.out, HTV.out⟩
    · have lt1 : ¬ (j : Int) < (b : Int) := by omega
      have hjb : j = b := by omega
      subst hjb
      clear hTj
      go_wp2_with fail
      go_end0
      exact ⟨rfl, hSj, hBj, hFj⟩
end Put
end Go.Proofs.YtdnglbgdoemejaaDoor
