/- A list of rows, anywhere in a block of such. -/
import Derived.Test.YtnkeahfcpbepjaaDoorPartG
import Derived.Test.YtnkeahfcpbepjaaDoorPartH
import Derived.Test.YtnkeahfcpbepjaaDoorPartI
import Derived.Deep.MidRow
import Derived.Test.YtnkeahfcpbepjaaDoorPartM
import Derived.Test.YtnkeahfcpbepjaaDoorPartL
namespace Go.Proofs.YtnkeahfcpbepjaaDoor
open Go.ChangeShapes Go.WideShapes Go.ChangeAt Go.RowKit
namespace Put
open Grd (C SliceAt CellsAt gridErr z0 nilV rowsL RowsAt RowB flat)
/-- The block that a slice speaks of. -/
def blkOf (v : Value) : Option Nat := match v with
  | .slice (some a) _ _ => some a.block
  | _ => none
/-- A list of rows' values, anywhere in a block of such: from N on. -/
def GoneV (W : World) (N : Nat) (v : Value) (n : Nat) (vs : List Value) : Prop :=
  vs.length = n ∧ ((n = 0 ∧ ∃ a c, v = .slice a 0 c) ∨ ∃ g o cap A, v = .slice (some ⟨g, o, none⟩) n cap ∧ N ≤ g ∧ n ≤ cap ∧ cap ≤ 9223372036854775807 ∧ W.heap[g]? = some (.cells A 22 (0, 0)) ∧ ∀ j, j < n → A[o + j]? = some (vs.getD j nilV))
theorem GoneV.of {W : World} {N : Nat} {v : Value} {n : Nat} {vs : List Value} (h : W.ownsRow N 22 1 v n vs) : GoneV W N v n vs := by
  obtain ⟨h0, ⟨rfl, rfl⟩ | ⟨g, cap, cur, rfl, hg, hh, hc, hm, hs, htk⟩⟩ := h
  · exact ⟨by simpa using h0, .inl ⟨rfl, none, 0, rfl⟩⟩
  · refine ⟨by simpa using h0, .inr ⟨g, 0, cap, cur, rfl, hg, hc, by unfold maxLen at hm; omega, hh, fun j hj => ?_⟩⟩
    have hl : vs.length = n := by simpa using h0
    rw [Nat.zero_add]
    have e : cur[j]? = vs[j]? := by rw [← htk, ← Array.getElem?_toList, List.getElem?_take_of_lt (by omega)]
    rw [e]
    simp [List.getD, List.getElem?_eq_getElem (show j < vs.length by omega)]
theorem GoneV.slice {W : World} {N : Nat} {v : Value} {n : Nat} {vs : List Value} (h : GoneV W N v n vs) : ∃ a c, v = .slice a n c := by
  obtain ⟨-, ⟨rfl, a, c, rfl⟩ | ⟨g, o, cap, A, rfl, -⟩⟩ := h
  · exact ⟨a, c, rfl⟩
  · exact ⟨_, cap, rfl⟩
theorem GoneV.kept {W W' : World} {N : Nat} {v : Value} {n : Nat} {vs : List Value} (h : GoneV W N v n vs) (hk : ∀ g, v.ownBlock = some g → W'.heap[g]? = W.heap[g]?) : GoneV W' N v n vs := by
  obtain ⟨h0, h | ⟨g, o, cap, A, hv, h1, h2, h3, h4, h5⟩⟩ := h
  · exact ⟨h0, .inl h⟩
  · exact ⟨h0, .inr ⟨g, o, cap, A, hv, h1, h2, h3, (hk g (by rw [hv]; rfl)).trans h4, h5⟩⟩
theorem GoneV.next {W W' : World} {N : Nat} {v : Value} {n : Nat} {vs : List Value} (h : GoneV W N v n vs) (hb : Below W.heap.size W W') : GoneV W' N v n vs := by
  obtain ⟨h0, h | ⟨g, o, cap, A, hv, h1, h2, h3, h4, h5⟩⟩ := h
  · exact ⟨h0, .inl h⟩
  · exact ⟨h0, .inr ⟨g, o, cap, A, hv, h1, h2, h3, Grd.carry h4 hb, h5⟩⟩
theorem GoneV.apart {W W' : World} {N p : Nat} {t : TypeId} {v : Value} {n : Nat} {vs : List Value} {A : Array Value} {f : Nat × Nat} (h : GoneV W N v n vs) (hp : W.heap[p]? = some (.cells A t f)) (ht : t ≠ 22) (ho : ∀ k, k ≠ p → W'.heap[k]? = W.heap[k]?) : GoneV W' N v n vs := by
  obtain ⟨h0, h | ⟨g, o, cap, B, hv, h1, h2, h3, h4, h5⟩⟩ := h
  · exact ⟨h0, .inl h⟩
  · refine ⟨h0, .inr ⟨g, o, cap, B, hv, h1, h2, h3, (ho g fun e => ?_).trans h4, h5⟩⟩
    rw [e, hp] at h4
    injection h4 with h4
    injection h4 with _ h4 _
    exact ht h4
theorem GoneV.rowsV {W : World} {N : Nat} {v : Value} {rows : List (List C)} {vs : List Value} (h : GoneV W N v rows.length vs) (hr : RowsL W vs rows) : RowsV W v rows := by
  obtain ⟨h0, ⟨hn, a, c, hv⟩ | ⟨g, o, cap, A, hv, h1, h2, h3, h4, h5⟩⟩ := h
  · exact .inl ⟨List.eq_nil_of_length_eq_zero hn, a, c, hv⟩
  · refine .inr ⟨g, o, cap, hv, h2, h3, fun j hj => ⟨vs.getD j nilV, ?_, hr.2 j hj⟩⟩
    simp only [World.cell?, h4]
    rw [h5 j hj]
    rfl
end Put
end Go.Proofs.YtnkeahfcpbepjaaDoor

/- A screen's grid, read out of the screen's block; lists of rows; a screen that is kept. -/
namespace Go.Proofs.YtnkeahfcpbepjaaDoor
open Go.ChangeShapes Go.WideShapes Go.ChangeAt Go.RowKit
namespace Put
open Grd (C SliceAt CellsAt gridErr z0 nilV rowsL RowsAt RowB flat)
def Ptr3 (W : World) (v : Value) : Prop := ∃ R o cs t fr, v = .pointer (some ⟨R, o, none⟩) ∧ W.heap[R]? = some (.cells cs t fr) ∧ o + 3 ≤ cs.size
def at3 (W : World) (v : Value) : Array Value := match v with
  | .pointer (some a) => (match W.heap[a.block]? with
    | some (.cells cs _ _) => cs.extract a.off (a.off + 3)
    | _ => #[])
  | _ => #[]
theorem info_grid3 : (Tryd.prog.info? 24).map (·.size) = some 3 := by kernel_rfl
theorem load_grd (a : Act) (dst : Option Tmp) (x : Operand) (ty : TypeId) (pos : String) (after : Array Edge) (guard : Option (Nat × Bool)) (W : World) (h : Ptr3 W (a.eval x)) :
    (execOp a.eval { dst, op := .load 24 x, type := ty, pos, after, guard }).run Tryd.prog W = .ok (.value (.agg (at3 W (a.eval x)))) W := by
  obtain ⟨R, o, cs, t, fr, h0, h1, h2⟩ := h
  have e : at3 W (a.eval x) = cs.extract o (o + 3) := by rw [h0]; unfold at3; simp only []; rw [h1]
  rw [e]
  have hr := run_loadVar_mid (P := Tryd.prog) W R o 24 (cs.extract o (o + 3)).toList _ (World.rangeAt_of_block h1 o 3) Tryd.underlying24 rfl (by rw [info_grid3]; simp; omega)
  unfold execOp
  simp only [h0, Instr.loadAt, Instr.sureAddr, Sem.run_bind, Sem.run_pure, Result.andThen_ok, hr]
theorem scr_grd {W : World} {R : Nat} {t : TypeId} {s : Scr} {cv tv gv : Value} (h : W.heap[R]? = some (.cells (scrA s cv tv gv) t (0, 0))) : Ptr3 W (.pointer (some ⟨R, 0, none⟩)) ∧ at3 W (.pointer (some ⟨R, 0, none⟩)) = #[.int .i64 s.w, .int .i64 s.h, cv] := by
  refine ⟨⟨_, _, _, _, _, rfl, h, by show 3 ≤ 22; omega⟩, ?_⟩
  unfold at3
  simp only []
  rw [h]
  rfl
theorem getD_app {α : Type} (l l' : List α) (d : α) (i : Nat) : (l ++ l').getD i d = if i < l.length then l.getD i d else l'.getD (i - l.length) d := by
  by_cases h : i < l.length
  · rw [if_pos h]
    simp [List.getD, List.getElem?_append_left h]
  · rw [if_neg h]
    simp [List.getD, List.getElem?_append_right (Nat.le_of_not_lt h)]
theorem RowsL.app {W : World} {vs vs' : List Value} {l l' : List (List C)} (h : RowsL W vs l) (h' : RowsL W vs' l') : RowsL W (vs ++ vs') (l ++ l') := by
  refine ⟨by rw [List.length_append, List.length_append, h.1, h'.1], fun i hi => ?_⟩
  rw [List.length_append] at hi
  rw [getD_app, getD_app, h.1]
  split
  · exact h.2 i (by assumption)
  · exact h'.2 _ (by omega)
theorem getD_take' {α : Type} (l : List α) (d : α) (k i : Nat) (h : i < k) : (l.take k).getD i d = l.getD i d := by simp [List.getD, List.getElem?_take_of_lt h]
theorem RowsL.take {W : World} {vs : List Value} {l : List (List C)} (h : RowsL W vs l) (k : Nat) : RowsL W (vs.take k) (l.take k) := by
  refine ⟨by rw [List.length_take, List.length_take, h.1], fun i hi => ?_⟩
  rw [List.length_take] at hi
  rw [getD_take' _ _ _ _ (by omega), getD_take' _ _ _ _ (by omega)]
  exact h.2 i (by omega)
theorem rowsAt_list {W : World} {N : Nat} {vs : List Value} {gs : List Nat} {rows : List (List C)} (h : RowsAt W N vs gs rows) : RowsL W vs rows := ⟨h.1, fun i hi => (rowIn_rowB (N := 0) (h.2.2.2 i hi).2).cells⟩
/-- The rest of a list of rows. -/
theorem rowsV_drop {W : World} {g c L : Nat} {vs : List Value} {l : List (List C)} (hc1 : L ≤ c) (hc2 : c ≤ 9223372036854775807) (hcell : ∀ j, j < L → W.cell? ⟨g, j, none⟩ = some (vs.getD j nilV)) (hr : RowsL W vs l) (hl : l.length = L) (d : Nat) (hd : d < L) : RowsV W (.slice (some ⟨g, d, none⟩) (L - d) (c - d)) (l.drop d) := by
  refine .inr ⟨g, d, c - d, by rw [List.length_drop, hl], by rw [List.length_drop]; omega, by omega, fun j hj => ?_⟩
  rw [List.length_drop] at hj
  refine ⟨vs.getD (d + j) nilV, hcell _ (by omega), ?_⟩
  have e : (l.drop d).getD j [] = l.getD (d + j) [] := by simp [List.getD, List.getElem?_drop]
  rw [e]
  exact hr.2 _ (by omega)
theorem kept_g {w W : World} {A : Array Value} (hB : Below w.heap.size w W) :
    ((W.alloc (.cells #[.int .i64 0, .int .i64 0, .slice none 0 0, .int .i64 0, .int .i64 0, .bool false, .int .i64 0, .int .i64 0, .int .i64 0, .int .i64 0, .int .i64 0, .int .i64 0, .slice none 0 0, .int .i64 0, .int .i64 0, .int .i64 0, .int .i64 0, .int .i64 0, .int .i64 0, .int .i32 0, .string ⟨#[]⟩, .slice none 0 0] 32)).setRow W.heap.size A).heap[W.heap.size]? = some (.cells A 32 (0, 0)) ∧ Below W.heap.size W ((W.alloc (.cells #[.int .i64 0, .int .i64 0, .slice none 0 0, .int .i64 0, .int .i64 0, .bool false, .int .i64 0, .int .i64 0, .int .i64 0, .int .i64 0, .int .i64 0, .int .i64 0, .slice none 0 0, .int .i64 0, .int .i64 0, .int .i64 0, .int .i64 0, .int .i64 0, .int .i64 0, .int .i32 0, .string ⟨#[]⟩, .slice none 0 0] 32)).setRow W.heap.size A) ∧ Below w.heap.size w ((W.alloc (.cells #[.int .i64 0, .int .i64 0, .slice none 0 0, .int .i64 0, .int .i64 0, .bool false, .int .i64 0, .int .i64 0, .int .i64 0, .int .i64 0, .int .i64 0, .int .i64 0, .slice none 0 0, .int .i64 0, .int .i64 0, .int .i64 0, .int .i64 0, .int .i64 0, .int .i64 0, .int .i32 0, .string ⟨#[]⟩, .slice none 0 0] 32)).setRow W.heap.size A) ∧ (W.alloc (.cells #[.int .i64 0, .int .i64 0, .slice none 0 0, .int .i64 0, .int .i64 0, .bool false, .int .i64 0, .int .i64 0, .int .i64 0, .int .i64 0, .int .i64 0, .int .i64 0, .slice none 0 0, .int .i64 0, .int .i64 0, .int .i64 0, .int .i64 0, .int .i64 0, .int .i64 0, .int .i32 0, .string ⟨#[]⟩, .slice none 0 0] 32)).heap[W.heap.size]? = some (.cells #[.int .i64 0, .int .i64 0, .slice none 0 0, .int .i64 0, .int .i64 0, .bool false, .int .i64 0, .int .i64 0, .int .i64 0, .int .i64 0, .int .i64 0, .int .i64 0, .slice none 0 0, .int .i64 0, .int .i64 0, .int .i64 0, .int .i64 0, .int .i64 0, .int .i64 0, .int .i32 0, .string ⟨#[]⟩, .slice none 0 0] 32 (0, 0)) := by
  have h1 : Below W.heap.size W ((W.alloc (.cells #[.int .i64 0, .int .i64 0, .slice none 0 0, .int .i64 0, .int .i64 0, .bool false, .int .i64 0, .int .i64 0, .int .i64 0, .int .i64 0, .int .i64 0, .int .i64 0, .slice none 0 0, .int .i64 0, .int .i64 0, .int .i64 0, .int .i64 0, .int .i64 0, .int .i64 0, .int .i32 0, .string ⟨#[]⟩, .slice none 0 0] 32)).setRow W.heap.size A) := below_setRow ((Below.refl _ _).alloc (Nat.le_refl _) _) (Nat.le_refl _) _
  exact ⟨setRow_heap _ _ _ _ _ _ (heap_alloc_new W _), h1, hB.trans (h1.mono hB.size), heap_alloc_new W _⟩
end Put
end Go.Proofs.YtnkeahfcpbepjaaDoor

/- The law PutRow. (Written by gen_putrow.py.) -/
namespace Go.Proofs.YtnkeahfcpbepjaaDoor
open Go.ChangeShapes Go.WideShapes Go.ChangeAt Go.RowKit
namespace Put
open Grd (C SliceAt CellsAt gridErr z0 nilV rowsL RowsAt RowB flat)
set_option linter.unusedVariables false in
set_option maxHeartbeats 8000000 in
set_option maxRecDepth 100000 in
theorem row_a (s : Scr) (cv tv gv : Value) (a b : ByteArray) (w : World) (hT : Txt.Tab w) (hU : VTabs w) (hV : ScrV w s cv tv gv) (hF : Fits s) (ha : Lib.validD a.data.toList = false) (hs : a.size ≤ 1048576) :
    Calls Tryd.prog 5 #[.agg (scrA s cv tv gv), .string a, .string b] w fun e w' => e = .returned (.bool true) ∧ Below w.heap.size w w' := by
  have x0 := heap_alloc_new w (.cells (scrA s cv tv gv) 32)
  have kb : Below w.heap.size w (w.alloc (.cells (scrA s cv tv gv) 32)) := (Below.refl _ _).alloc (Nat.le_refl _) _
  have HP : Hid (∀ W, Below w.heap.size w W → Calls Tryd.prog 11 #[] W fun e w' => e = .returned (.bool true) ∧ Below W.heap.size W w') := fun W h => printed_any W (Grd.Tab.next hT h)
  have HVS : Hid (∀ W (t : ByteArray), Below w.heap.size w W → t.size ≤ 9223372036854775807 → Calls Tryd.prog 23 #[.string t] W fun e w' => e = .returned (.bool (Lib.validD t.data.toList)) ∧ Below W.heap.size W w') := fun W t h ht => valid_any t W ht (vtabs_next hU h)
  have HX0b : Hid _ := x0
  have HKB : Hid _ := kb
  clear x0 kb hT hV hF hU
  go_enter Tryd.func5, Tryd.ntmps5
  go_wp2_with fail
  refine (HVS.out _ a HKB.out (by omega)).mono ?_
  rintro e U1 ⟨rfl, b1⟩
  rw [ha]
  have HBU1 : Hid (Below w.heap.size w U1) := HKB.out.trans (b1.mono HKB.out.size)
  have HXU1 : Hid (U1.heap[w.heap.size]? = _) := Grd.carry HX0b.out b1
  clear b1
  go_wp2_with fail
  refine (HP.out _ HBU1.out).mono ?_
  rintro e V ⟨rfl, bp⟩
  have HBV : Hid (Below w.heap.size w V) := HBU1.out.trans (bp.mono HBU1.out.size)
  go_wp2_with fail
  go_ret
  exact ⟨rfl, HBV.out⟩
set_option linter.unusedVariables false in
set_option maxHeartbeats 8000000 in
set_option maxRecDepth 100000 in
theorem row_b (s : Scr) (cv tv gv : Value) (a b : ByteArray) (w : World) (hT : Txt.Tab w) (hU : VTabs w) (hV : ScrV w s cv tv gv) (hF : Fits s) (ha : Lib.validD a.data.toList = true) (hb : Lib.validD b.data.toList = false) (hs : a.size ≤ 1048576) (hs2 : b.size ≤ 1048576) :
    Calls Tryd.prog 5 #[.agg (scrA s cv tv gv), .string a, .string b] w fun e w' => e = .returned (.bool true) ∧ Below w.heap.size w w' := by
  have x0 := heap_alloc_new w (.cells (scrA s cv tv gv) 32)
  have kb : Below w.heap.size w (w.alloc (.cells (scrA s cv tv gv) 32)) := (Below.refl _ _).alloc (Nat.le_refl _) _
  have HP : Hid (∀ W, Below w.heap.size w W → Calls Tryd.prog 11 #[] W fun e w' => e = .returned (.bool true) ∧ Below W.heap.size W w') := fun W h => printed_any W (Grd.Tab.next hT h)
  have HVS : Hid (∀ W (t : ByteArray), Below w.heap.size w W → t.size ≤ 9223372036854775807 → Calls Tryd.prog 23 #[.string t] W fun e w' => e = .returned (.bool (Lib.validD t.data.toList)) ∧ Below W.heap.size W w') := fun W t h ht => valid_any t W ht (vtabs_next hU h)
  have HX0b : Hid _ := x0
  have HKB : Hid _ := kb
  clear x0 kb hT hV hF hU
  go_enter Tryd.func5, Tryd.ntmps5
  go_wp2_with fail
  refine (HVS.out _ a HKB.out (by omega)).mono ?_
  rintro e U1 ⟨rfl, b1⟩
  rw [ha]
  have HBU1 : Hid (Below w.heap.size w U1) := HKB.out.trans (b1.mono HKB.out.size)
  have HXU1 : Hid (U1.heap[w.heap.size]? = _) := Grd.carry HX0b.out b1
  clear b1
  go_wp2_with fail
  refine (HVS.out _ b HBU1.out (by omega)).mono ?_
  rintro e U2 ⟨rfl, b2⟩
  rw [hb]
  have HBU2 : Hid (Below w.heap.size w U2) := HBU1.out.trans (b2.mono HBU1.out.size)
  have HXU2 : Hid (U2.heap[w.heap.size]? = _) := Grd.carry HXU1.out b2
  clear b2
  go_wp2_with fail
  refine (HP.out _ HBU2.out).mono ?_
  rintro e V ⟨rfl, bp⟩
  have HBV : Hid (Below w.heap.size w V) := HBU2.out.trans (bp.mono HBU2.out.size)
  go_wp2_with fail
  go_ret
  exact ⟨rfl, HBV.out⟩
set_option linter.unusedVariables false in
set_option maxHeartbeats 8000000 in
set_option maxRecDepth 100000 in
theorem row_long (s : Scr) (cv tv gv : Value) (a b : ByteArray) (w : World) (hT : Txt.Tab w) (hU : VTabs w) (hV : ScrV w s cv tv gv) (hF : Fits s) (ha : Lib.validD a.data.toList = true) (hb : Lib.validD b.data.toList = true) (hs : a.size ≤ 1048576) (hs2 : b.size ≤ 1048576) (hl : 4000 < a.size + b.size) :
    Calls Tryd.prog 5 #[.agg (scrA s cv tv gv), .string a, .string b] w fun e w' => e = .returned (.bool true) ∧ Below w.heap.size w w' := by
  have x0 := heap_alloc_new w (.cells (scrA s cv tv gv) 32)
  have kb : Below w.heap.size w (w.alloc (.cells (scrA s cv tv gv) 32)) := (Below.refl _ _).alloc (Nat.le_refl _) _
  have HP : Hid (∀ W, Below w.heap.size w W → Calls Tryd.prog 11 #[] W fun e w' => e = .returned (.bool true) ∧ Below W.heap.size W w') := fun W h => printed_any W (Grd.Tab.next hT h)
  have HVS : Hid (∀ W (t : ByteArray), Below w.heap.size w W → t.size ≤ 9223372036854775807 → Calls Tryd.prog 23 #[.string t] W fun e w' => e = .returned (.bool (Lib.validD t.data.toList)) ∧ Below W.heap.size W w') := fun W t h ht => valid_any t W ht (vtabs_next hU h)
  have hlt : (4000 : Int) < (a.size : Int) + (b.size : Int) := by omega
  have HX0b : Hid _ := x0
  have HKB : Hid _ := kb
  clear x0 kb hT hV hF hU
  go_enter Tryd.func5, Tryd.ntmps5
  go_wp2_with fail
  refine (HVS.out _ a HKB.out (by omega)).mono ?_
  rintro e U1 ⟨rfl, b1⟩
  rw [ha]
  have HBU1 : Hid (Below w.heap.size w U1) := HKB.out.trans (b1.mono HKB.out.size)
  have HXU1 : Hid (U1.heap[w.heap.size]? = _) := Grd.carry HX0b.out b1
  clear b1
  go_wp2_with fail
  refine (HVS.out _ b HBU1.out (by omega)).mono ?_
  rintro e U2 ⟨rfl, b2⟩
  rw [hb]
  have HBU2 : Hid (Below w.heap.size w U2) := HBU1.out.trans (b2.mono HBU1.out.size)
  have HXU2 : Hid (U2.heap[w.heap.size]? = _) := Grd.carry HXU1.out b2
  clear b2
  go_wp2_with fail
  refine (HP.out _ HBU2.out).mono ?_
  rintro e V ⟨rfl, bp⟩
  have HBV : Hid (Below w.heap.size w V) := HBU2.out.trans (bp.mono HBU2.out.size)
  go_wp2_with fail
  go_ret
  exact ⟨rfl, HBV.out⟩
set_option linter.unusedVariables false in
set_option maxHeartbeats 8000000 in
set_option maxRecDepth 100000 in
theorem row_bad (s : Scr) (cv tv gv : Value) (a b : ByteArray) (w : World) (hT : Txt.Tab w) (hU : VTabs w) (hV : ScrV w s cv tv gv) (hF : Fits s) (ha : Lib.validD a.data.toList = true) (hb : Lib.validD b.data.toList = true) (hs : a.size ≤ 1048576) (hs2 : b.size ≤ 1048576) (hl : a.size + b.size ≤ 4000) (hz : scrErr s ≠ 0) :
    Calls Tryd.prog 5 #[.agg (scrA s cv tv gv), .string a, .string b] w fun e w' => e = .returned (.bool true) ∧ Below w.heap.size w w' := by
  have x0 := heap_alloc_new w (.cells (scrA s cv tv gv) 32)
  have kb : Below w.heap.size w (w.alloc (.cells (scrA s cv tv gv) 32)) := (Below.refl _ _).alloc (Nat.le_refl _) _
  have HP : Hid (∀ W, Below w.heap.size w W → Calls Tryd.prog 11 #[] W fun e w' => e = .returned (.bool true) ∧ Below W.heap.size W w') := fun W h => printed_any W (Grd.Tab.next hT h)
  have HVS : Hid (∀ W (t : ByteArray), Below w.heap.size w W → t.size ≤ 9223372036854775807 → Calls Tryd.prog 23 #[.string t] W fun e w' => e = .returned (.bool (Lib.validD t.data.toList)) ∧ Below W.heap.size W w') := fun W t h ht => valid_any t W ht (vtabs_next hU h)
  have hlt : ¬ ((4000 : Int) < (a.size : Int) + (b.size : Int)) := by omega
  have HC1 : Hid (∀ W, Below w.heap.size w W → Calls Tryd.prog 18 #[.agg (scrA s cv tv gv), .string a] W (Made w W zScr (scrErr s))) := fun W h => ptext_bad (w0 := w) ⟨Grd.Tab.next hT h, hV, h, hF⟩ hz a (by omega)
  have hzb : (scrErr s != 0) = true := by simp [bne, hz]
  clear hz
  generalize scrErr s = er at *
  have HX0b : Hid _ := x0
  have HKB : Hid _ := kb
  clear x0 kb hT hV hF hU
  go_enter Tryd.func5, Tryd.ntmps5
  go_wp2_with fail
  refine (HVS.out _ a HKB.out (by omega)).mono ?_
  rintro e U1 ⟨rfl, b1⟩
  rw [ha]
  have HBU1 : Hid (Below w.heap.size w U1) := HKB.out.trans (b1.mono HKB.out.size)
  have HXU1 : Hid (U1.heap[w.heap.size]? = _) := Grd.carry HX0b.out b1
  clear b1
  go_wp2_with fail
  refine (HVS.out _ b HBU1.out (by omega)).mono ?_
  rintro e U2 ⟨rfl, b2⟩
  rw [hb]
  have HBU2 : Hid (Below w.heap.size w U2) := HBU1.out.trans (b2.mono HBU1.out.size)
  have HXU2 : Hid (U2.heap[w.heap.size]? = _) := Grd.carry HXU1.out b2
  clear b2
  go_wp2_with (refine wpList_load_row rfl 32 (.tmp 3) rfl w.heap.size rfl _ _ _ _ HXU2.out Tryd.underlying32 rfl (by kernel_rfl) ?_)
  refine (HC1.out _ HBU2.out).mono ?_
  rintro e V1 ⟨cv1, tv1, gv1, rfl, hO, b1⟩
  have hv1 := hO.scr
  obtain ⟨d11, m11, e11, d12, m12, e12, d13, m13, e13, rfl, rfl, rfl⟩ := hO.shapes
  have HB1 : Hid (Below w.heap.size w V1) := HBU2.out.trans (b1.mono HBU2.out.size)
  have HX1 : Hid (V1.heap[w.heap.size]? = _) := Grd.carry HXU2.out b1
  obtain ⟨k1, k2, k3, k4⟩ := kept_g (A := (scrA zScr (.slice d11 m11 e11) (.slice d12 m12 e12) (.slice d13 m13 e13))) HB1.out
  have HM1 : Hid _ := k1
  have HN1 : Hid _ := k3
  have HL1 : Hid _ := k4
  have HK1 : Hid _ := b1.trans (k2.mono b1.size)
  have HX1b : Hid _ := Grd.carry HX1.out k2
  have HV1 : Hid (ScrV _ zScr _ _ _) := hv1.next k2
  clear hO b1 k1 k2 k3 k4 hv1 HX1
  go_upto_region 4 with (refine wpList_store_row rfl 32 (.tmp 7) _ rfl V1.heap.size (scrA zScr (.slice d11 m11 e11) (.slice d12 m12 e12) (.slice d13 m13 e13)) rfl rfl _ _ HL1.out (by kernel_rfl) rfl (scr_one _ _ _ _ _ _ _ _ _ _) ?_)
  clear HL1 HB1
  generalize ((V1.alloc (.cells #[.int .i64 0, .int .i64 0, .slice none 0 0, .int .i64 0, .int .i64 0, .bool false, .int .i64 0, .int .i64 0, .int .i64 0, .int .i64 0, .int .i64 0, .int .i64 0, .slice none 0 0, .int .i64 0, .int .i64 0, .int .i64 0, .int .i64 0, .int .i64 0, .int .i64 0, .int .i32 0, .string ⟨#[]⟩, .slice none 0 0] 32)).setRow V1.heap.size (scrA zScr (.slice d11 m11 e11) (.slice d12 m12 e12) (.slice d13 m13 e13))) = X1 at *
  go_wp2_with fail
  refine (HP.out _ HN1.out).mono ?_
  rintro e Y ⟨rfl, bp⟩
  have HBY : Hid (Below w.heap.size w Y) := HN1.out.trans (bp.mono HN1.out.size)
  clear bp
  go_wp2_with fail
  refine (HP.out _ HBY.out).mono ?_
  rintro e V ⟨rfl, bp⟩
  have HBV : Hid (Below w.heap.size w V) := HBY.out.trans (bp.mono HBY.out.size)
  go_wp2_with fail
  go_ret
  exact ⟨rfl, HBV.out⟩
set_option linter.unusedVariables false in
set_option maxHeartbeats 8000000 in
set_option maxRecDepth 100000 in
theorem row_good (s : Scr) (cv tv gv : Value) (a b : ByteArray) (w : World) (hT : Txt.Tab w) (hU : VTabs w) (hV : ScrV w s cv tv gv) (hF : Fits s) (ha : Lib.validD a.data.toList = true) (hb : Lib.validD b.data.toList = true) (hs : a.size ≤ 1048576) (hs2 : b.size ≤ 1048576) (hl : a.size + b.size ≤ 4000) (n hh : Nat) (hR : RightS s n hh) :
    Calls Tryd.prog 5 #[.agg (scrA s cv tv gv), .string a, .string b] w fun e w' => e = .returned (.bool true) ∧ Below w.heap.size w w' := by
  have x0 := heap_alloc_new w (.cells (scrA s cv tv gv) 32)
  have kb : Below w.heap.size w (w.alloc (.cells (scrA s cv tv gv) 32)) := (Below.refl _ _).alloc (Nat.le_refl _) _
  have HP : Hid (∀ W, Below w.heap.size w W → Calls Tryd.prog 11 #[] W fun e w' => e = .returned (.bool true) ∧ Below W.heap.size W w') := fun W h => printed_any W (Grd.Tab.next hT h)
  have HVS : Hid (∀ W (t : ByteArray), Below w.heap.size w W → t.size ≤ 9223372036854775807 → Calls Tryd.prog 23 #[.string t] W fun e w' => e = .returned (.bool (Lib.validD t.data.toList)) ∧ Below W.heap.size W w') := fun W t h ht => valid_any t W ht (vtabs_next hU h)
  have hlt : ¬ ((4000 : Int) < (a.size : Int) + (b.size : Int)) := by omega
  have hab : (a ++ b).size ≤ 4000 := by rw [ByteArray.size_append]; exact hl
  have hrow := textS_row hR a b ha
  have HC1 : Hid (∀ W, Below w.heap.size w W → Calls Tryd.prog 18 #[.agg (scrA s cv tv gv), .string a] W (Made w W (textS n hh a s) 0)) := fun W h => ptext_good (w0 := w) ⟨Grd.Tab.next hT h, hV, h, hF⟩ hR a (by omega)
  have HC3 : Hid (∀ W, Below w.heap.size w W → Calls Tryd.prog 18 #[.agg (scrA s cv tv gv), .string (a ++ b)] W (Made w W (textS n hh (a ++ b) s) 0)) := fun W h => ptext_good (w0 := w) ⟨Grd.Tab.next hT h, hV, h, hF⟩ hR (a ++ b) hab
  rw [← hrow] at HC3
  have hR1 := textS_right hR a
  have hF1 := fits_text hR1 (by rw [textS_title]; exact hF.tl)
  have hR2 := textS_right hR1 b
  have HSM : Hid (Small (textS n hh b (textS n hh a s))) := smallOf hR2
  generalize textS n hh a s = s1 at *
  have HC2 : Hid (∀ W cv' tv' gv', Below w.heap.size w W → ScrV W s1 cv' tv' gv' → Calls Tryd.prog 18 #[.agg (scrA s1 cv' tv' gv'), .string b] W (Made W W (textS n hh b s1) 0)) := fun W cv' tv' gv' h hv => ptext_good (w0 := W) ⟨Grd.Tab.next hT h, hv, Below.refl _ _, hF1⟩ hR1 b (by omega)
  generalize textS n hh b s1 = s2 at *
  clear hrow hR1 hF1 hR2 hR hab
  have HX0b : Hid _ := x0
  have HKB : Hid _ := kb
  clear x0 kb hT hV hF hU
  go_enter Tryd.func5, Tryd.ntmps5
  go_wp2_with fail
  refine (HVS.out _ a HKB.out (by omega)).mono ?_
  rintro e U1 ⟨rfl, b1⟩
  rw [ha]
  have HBU1 : Hid (Below w.heap.size w U1) := HKB.out.trans (b1.mono HKB.out.size)
  have HXU1 : Hid (U1.heap[w.heap.size]? = _) := Grd.carry HX0b.out b1
  clear b1
  go_wp2_with fail
  refine (HVS.out _ b HBU1.out (by omega)).mono ?_
  rintro e U2 ⟨rfl, b2⟩
  rw [hb]
  have HBU2 : Hid (Below w.heap.size w U2) := HBU1.out.trans (b2.mono HBU1.out.size)
  have HXU2 : Hid (U2.heap[w.heap.size]? = _) := Grd.carry HXU1.out b2
  clear b2
  go_wp2_with (refine wpList_load_row rfl 32 (.tmp 3) rfl w.heap.size rfl _ _ _ _ HXU2.out Tryd.underlying32 rfl (by kernel_rfl) ?_)
  refine (HC1.out _ HBU2.out).mono ?_
  rintro e V1 ⟨cv1, tv1, gv1, rfl, hO, b1⟩
  have hv1 := hO.scr
  obtain ⟨d11, m11, e11, d12, m12, e12, d13, m13, e13, rfl, rfl, rfl⟩ := hO.shapes
  have HB1 : Hid (Below w.heap.size w V1) := HBU2.out.trans (b1.mono HBU2.out.size)
  have HX1 : Hid (V1.heap[w.heap.size]? = _) := Grd.carry HXU2.out b1
  obtain ⟨k1, k2, k3, k4⟩ := kept_g (A := (scrA s1 (.slice d11 m11 e11) (.slice d12 m12 e12) (.slice d13 m13 e13))) HB1.out
  have HM1 : Hid _ := k1
  have HN1 : Hid _ := k3
  have HL1 : Hid _ := k4
  have HK1 : Hid _ := b1.trans (k2.mono b1.size)
  have HX1b : Hid _ := Grd.carry HX1.out k2
  have HV1 : Hid (ScrV _ s1 _ _ _) := hv1.next k2
  clear hO b1 k1 k2 k3 k4 hv1 HX1
  go_upto_region 4 with (refine wpList_store_row rfl 32 (.tmp 7) _ rfl V1.heap.size (scrA s1 (.slice d11 m11 e11) (.slice d12 m12 e12) (.slice d13 m13 e13)) rfl rfl _ _ HL1.out (by kernel_rfl) rfl (scr_one _ _ _ _ _ _ _ _ _ _) ?_)
  clear HL1 HB1
  generalize ((V1.alloc (.cells #[.int .i64 0, .int .i64 0, .slice none 0 0, .int .i64 0, .int .i64 0, .bool false, .int .i64 0, .int .i64 0, .int .i64 0, .int .i64 0, .int .i64 0, .int .i64 0, .slice none 0 0, .int .i64 0, .int .i64 0, .int .i64 0, .int .i64 0, .int .i64 0, .int .i64 0, .int .i32 0, .string ⟨#[]⟩, .slice none 0 0] 32)).setRow V1.heap.size (scrA s1 (.slice d11 m11 e11) (.slice d12 m12 e12) (.slice d13 m13 e13))) = X1 at *
  go_wp2_with fail
  refine (HP.out _ HN1.out).mono ?_
  rintro e Y ⟨rfl, bp⟩
  have HBY : Hid (Below w.heap.size w Y) := HN1.out.trans (bp.mono HN1.out.size)
  have HVY : Hid (ScrV Y s1 _ _ _) := HV1.out.next bp
  have HMY : Hid (Y.heap[V1.heap.size]? = _) := Grd.carry HM1.out bp
  have HXY : Hid (Y.heap[w.heap.size]? = _) := Grd.carry HX1b.out bp
  clear bp HV1 HM1 HX1b HN1 HK1 HBU1 HXU1 HXU2 HBU2 HP HVS
  go_wp2_with (refine wpList_load_row rfl 32 (.tmp 7) rfl V1.heap.size rfl _ _ _ _ HMY.out Tryd.underlying32 rfl (by kernel_rfl) ?_)
  refine (HC2.out Y _ _ _ HBY.out HVY.out).mono ?_
  rintro e V2 ⟨cv2, tv2, gv2, rfl, hO, b1⟩
  have hv2 := hO.scr
  obtain ⟨d21, m21, e21, d22, m22, e22, d23, m23, e23, rfl, rfl, rfl⟩ := hO.shapes
  have HB2 : Hid (Below w.heap.size w V2) := HBY.out.trans (b1.mono HBY.out.size)
  have HX2 : Hid (V2.heap[w.heap.size]? = _) := Grd.carry HXY.out b1
  obtain ⟨k1, k2, k3, k4⟩ := kept_g (A := (scrA s2 (.slice d21 m21 e21) (.slice d22 m22 e22) (.slice d23 m23 e23))) HB2.out
  have HM2 : Hid _ := k1
  have HN2 : Hid _ := k3
  have HL2 : Hid _ := k4
  have HK2 : Hid _ := b1.trans (k2.mono b1.size)
  have HX2b : Hid _ := Grd.carry HX2.out k2
  have HV2 : Hid (ScrV _ s2 _ _ _) := hv2.next k2
  clear hO b1 k1 k2 k3 k4 hv2 HX2
  go_upto_region 7 with (refine wpList_store_row rfl 32 (.tmp 9) _ rfl V2.heap.size (scrA s2 (.slice d21 m21 e21) (.slice d22 m22 e22) (.slice d23 m23 e23)) rfl rfl _ _ HL2.out (by kernel_rfl) rfl (scr_one _ _ _ _ _ _ _ _ _ _) ?_)
  clear HL2 HB2
  generalize ((V2.alloc (.cells #[.int .i64 0, .int .i64 0, .slice none 0 0, .int .i64 0, .int .i64 0, .bool false, .int .i64 0, .int .i64 0, .int .i64 0, .int .i64 0, .int .i64 0, .int .i64 0, .slice none 0 0, .int .i64 0, .int .i64 0, .int .i64 0, .int .i64 0, .int .i64 0, .int .i64 0, .int .i32 0, .string ⟨#[]⟩, .slice none 0 0] 32)).setRow V2.heap.size (scrA s2 (.slice d21 m21 e21) (.slice d22 m22 e22) (.slice d23 m23 e23))) = X2 at *
  clear HVY HMY HBY HXY HK2 HC1 HC2
  go_wp2_with (refine wpList_load_row rfl 32 (.tmp 3) rfl w.heap.size rfl _ _ _ _ HX2b.out Tryd.underlying32 rfl (by kernel_rfl) ?_)
  refine (HC3.out _ HN2.out).mono ?_
  rintro e V3 ⟨cv3, tv3, gv3, rfl, hO, b1⟩
  have hv3 := hO.scr
  obtain ⟨d31, m31, e31, d32, m32, e32, d33, m33, e33, rfl, rfl, rfl⟩ := hO.shapes
  have HB3 : Hid (Below w.heap.size w V3) := HN2.out.trans (b1.mono HN2.out.size)
  have HX3 : Hid (V3.heap[w.heap.size]? = _) := Grd.carry HX2b.out b1
  obtain ⟨k1, k2, k3, k4⟩ := kept_g (A := (scrA s2 (.slice d31 m31 e31) (.slice d32 m32 e32) (.slice d33 m33 e33))) HB3.out
  have HM3 : Hid _ := k1
  have HN3 : Hid _ := k3
  have HL3 : Hid _ := k4
  have HK3 : Hid _ := b1.trans (k2.mono b1.size)
  have HX3b : Hid _ := Grd.carry HX3.out k2
  have HV3 : Hid (ScrV _ s2 _ _ _) := hv3.next k2
  clear hO b1 k1 k2 k3 k4 hv3 HX3
  go_upto_region 8 with (refine wpList_store_row rfl 32 (.tmp 10) _ rfl V3.heap.size (scrA s2 (.slice d31 m31 e31) (.slice d32 m32 e32) (.slice d33 m33 e33)) rfl rfl _ _ HL3.out (by kernel_rfl) rfl (scr_one _ _ _ _ _ _ _ _ _ _) ?_)
  clear HL3 HB3
  generalize ((V3.alloc (.cells #[.int .i64 0, .int .i64 0, .slice none 0 0, .int .i64 0, .int .i64 0, .bool false, .int .i64 0, .int .i64 0, .int .i64 0, .int .i64 0, .int .i64 0, .int .i64 0, .slice none 0 0, .int .i64 0, .int .i64 0, .int .i64 0, .int .i64 0, .int .i64 0, .int .i64 0, .int .i32 0, .string ⟨#[]⟩, .slice none 0 0] 32)).setRow V3.heap.size (scrA s2 (.slice d31 m31 e31) (.slice d32 m32 e32) (.slice d33 m33 e33))) = X3 at *
  have HQ : Hid (ScrV X3 s2 _ _ _) := HV2.out.next HK3.out
  have HR : Hid (X3.heap[V2.heap.size]? = _) := Grd.carry HM2.out HK3.out
  clear HV2 HM2 HN2 HX2b HX3b HK3 HC3
  go_wp2_with (first
    | (refine BigFrame.wpList_want rfl fun K hK => wp_load_row 32 (.tmp 9) rfl V2.heap.size rfl _ _ _ _ HR.out Tryd.underlying32 rfl (by kernel_rfl) (hK _ _ ?_))
    | (refine BigFrame.wpList_want rfl fun K hK => wp_load_row 32 (.tmp 10) rfl V3.heap.size rfl _ _ _ _ HM3.out Tryd.underlying32 rfl (by kernel_rfl) (hK _ _ ?_)))
  refine (sameScreen_any s2 _ _ _ _ _ _ X3 HQ.out HV3.out HSM.out).mono ?_
  rintro e V6 ⟨rfl, b6⟩
  have HBV6 : Hid (Below w.heap.size w V6) := HN3.out.trans (b6.mono HN3.out.size)
  clear b6
  go_wp2_with fail
  go_ret
  exact ⟨rfl, HBV6.out⟩
theorem putRow_walk (s : Scr) (cv tv gv : Value) (a b : ByteArray) (w : World) (hT : Txt.Tab w) (hU : VTabs w) (hV : ScrV w s cv tv gv) (hF : Fits s) (hs : a.size ≤ 1048576) (hs2 : b.size ≤ 1048576) :
    Calls Tryd.prog 5 #[.agg (scrA s cv tv gv), .string a, .string b] w fun e w' => e = .returned (.bool true) ∧ Below w.heap.size w w' := by
  cases ha : Lib.validD a.data.toList with
  | false => exact row_a s cv tv gv a b w hT hU hV hF ha hs
  | true =>
    cases hb : Lib.validD b.data.toList with
    | false => exact row_b s cv tv gv a b w hT hU hV hF ha hb hs hs2
    | true =>
      by_cases hl : a.size + b.size ≤ 4000
      · by_cases hz : scrErr s = 0
        · obtain ⟨n, hh, hR⟩ := right_of s hz
          exact row_good s cv tv gv a b w hT hU hV hF ha hb hs hs2 hl n hh hR
        · exact row_bad s cv tv gv a b w hT hU hV hF ha hb hs hs2 hl hz
      · exact row_long s cv tv gv a b w hT hU hV hF ha hb hs hs2 (by omega)
end Put
end Go.Proofs.YtnkeahfcpbepjaaDoor
