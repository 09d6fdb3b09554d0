/- A list of rows, anywhere in a block of such. -/
import Derived.Test.YtnkeahfcpbepjaaDoorPartG
import Derived.Test.YtnkeahfcpbepjaaDoorPartH
import Derived.Test.YtnkeahfcpbepjaaDoorPartI
import Derived.Deep.MidRow
import Derived.Test.YtnkeahfcpbepjaaDoorPartK
import Derived.Test.YtnkeahfcpbepjaaDoorPartL
import Derived.Test.YtnkeahfcpbepjaaDoorPartO
namespace Go.Proofs.YtnkeahfcpbepjaaDoor
open Go.ChangeShapes Go.WideShapes Go.ChangeAt Go.RowKit
namespace Put
open Grd (C SliceAt CellsAt gridErr z0 nilV rowsL RowsAt RowB flat)
/-- The block that a slice speaks of. -/
def blkOf (v : Value) : Option Nat := match v with
  | .slice (some a) _ _ => some a.block
  | _ => none
/-- A list of rows' values, anywhere in a block of such: from N on. -/
def GoneV (W : World) (N : Nat) (v : Value) (n : Nat) (vs : List Value) : Prop :=
  vs.length = n ∧ ((n = 0 ∧ ∃ a c, v = .slice a 0 c) ∨ ∃ g o cap A, v = .slice (some ⟨g, o, none⟩) n cap ∧ N ≤ g ∧ n ≤ cap ∧ cap ≤ 9223372036854775807 ∧ W.heap[g]? = some (.cells A 22 (0, 0)) ∧ ∀ j, j < n → A[o + j]? = some (vs.getD j nilV))
theorem GoneV.of {W : World} {N : Nat} {v : Value} {n : Nat} {vs : List Value} (h : W.ownsRow N 22 1 v n vs) : GoneV W N v n vs := by
  obtain ⟨h0, ⟨rfl, rfl⟩ | ⟨g, cap, cur, rfl, hg, hh, hc, hm, hs, htk⟩⟩ := h
  · exact ⟨by simpa using h0, .inl ⟨rfl, none, 0, rfl⟩⟩
  · refine ⟨by simpa using h0, .inr ⟨g, 0, cap, cur, rfl, hg, hc, by unfold maxLen at hm; omega, hh, fun j hj => ?_⟩⟩
    have hl : vs.length = n := by simpa using h0
    rw [Nat.zero_add]
    have e : cur[j]? = vs[j]? := by rw [← htk, ← Array.getElem?_toList, List.getElem?_take_of_lt (by omega)]
    rw [e]
    simp [List.getD, List.getElem?_eq_getElem (show j < vs.length by omega)]
theorem GoneV.slice {W : World} {N : Nat} {v : Value} {n : Nat} {vs : List Value} (h : GoneV W N v n vs) : ∃ a c, v = .slice a n c := by
  obtain ⟨-, ⟨rfl, a, c, rfl⟩ | ⟨g, o, cap, A, rfl, -⟩⟩ := h
  · exact ⟨a, c, rfl⟩
  · exact ⟨_, cap, rfl⟩
theorem GoneV.kept {W W' : World} {N : Nat} {v : Value} {n : Nat} {vs : List Value} (h : GoneV W N v n vs) (hk : ∀ g, v.ownBlock = some g → W'.heap[g]? = W.heap[g]?) : GoneV W' N v n vs := by
  obtain ⟨h0, h | ⟨g, o, cap, A, hv, h1, h2, h3, h4, h5⟩⟩ := h
  · exact ⟨h0, .inl h⟩
  · exact ⟨h0, .inr ⟨g, o, cap, A, hv, h1, h2, h3, (hk g (by rw [hv]; rfl)).trans h4, h5⟩⟩
theorem GoneV.next {W W' : World} {N : Nat} {v : Value} {n : Nat} {vs : List Value} (h : GoneV W N v n vs) (hb : Below W.heap.size W W') : GoneV W' N v n vs := by
  obtain ⟨h0, h | ⟨g, o, cap, A, hv, h1, h2, h3, h4, h5⟩⟩ := h
  · exact ⟨h0, .inl h⟩
  · exact ⟨h0, .inr ⟨g, o, cap, A, hv, h1, h2, h3, Grd.carry h4 hb, h5⟩⟩
theorem GoneV.apart {W W' : World} {N p : Nat} {t : TypeId} {v : Value} {n : Nat} {vs : List Value} {A : Array Value} {f : Nat × Nat} (h : GoneV W N v n vs) (hp : W.heap[p]? = some (.cells A t f)) (ht : t ≠ 22) (ho : ∀ k, k ≠ p → W'.heap[k]? = W.heap[k]?) : GoneV W' N v n vs := by
  obtain ⟨h0, h | ⟨g, o, cap, B, hv, h1, h2, h3, h4, h5⟩⟩ := h
  · exact ⟨h0, .inl h⟩
  · refine ⟨h0, .inr ⟨g, o, cap, B, hv, h1, h2, h3, (ho g fun e => ?_).trans h4, h5⟩⟩
    rw [e, hp] at h4
    injection h4 with h4
    injection h4 with _ h4 _
    exact ht h4
theorem GoneV.rowsV {W : World} {N : Nat} {v : Value} {rows : List (List C)} {vs : List Value} (h : GoneV W N v rows.length vs) (hr : RowsL W vs rows) : RowsV W v rows := by
  obtain ⟨h0, ⟨hn, a, c, hv⟩ | ⟨g, o, cap, A, hv, h1, h2, h3, h4, h5⟩⟩ := h
  · exact .inl ⟨List.eq_nil_of_length_eq_zero hn, a, c, hv⟩
  · refine .inr ⟨g, o, cap, hv, h2, h3, fun j hj => ⟨vs.getD j nilV, ?_, hr.2 j hj⟩⟩
    simp only [World.cell?, h4]
    rw [h5 j hj]
    rfl
end Put
end Go.Proofs.YtnkeahfcpbepjaaDoor

/- A screen's grid, read out of the screen's block; lists of rows; a screen that is kept. -/
namespace Go.Proofs.YtnkeahfcpbepjaaDoor
open Go.ChangeShapes Go.WideShapes Go.ChangeAt Go.RowKit
namespace Put
open Grd (C SliceAt CellsAt gridErr z0 nilV rowsL RowsAt RowB flat)
def Ptr3 (W : World) (v : Value) : Prop := ∃ R o cs t fr, v = .pointer (some ⟨R, o, none⟩) ∧ W.heap[R]? = some (.cells cs t fr) ∧ o + 3 ≤ cs.size
def at3 (W : World) (v : Value) : Array Value := match v with
  | .pointer (some a) => (match W.heap[a.block]? with
    | some (.cells cs _ _) => cs.extract a.off (a.off + 3)
    | _ => #[])
  | _ => #[]
theorem info_grid3 : (Tryd.prog.info? 24).map (·.size) = some 3 := by kernel_rfl
theorem load_grd (a : Act) (dst : Option Tmp) (x : Operand) (ty : TypeId) (pos : String) (after : Array Edge) (guard : Option (Nat × Bool)) (W : World) (h : Ptr3 W (a.eval x)) :
    (execOp a.eval { dst, op := .load 24 x, type := ty, pos, after, guard }).run Tryd.prog W = .ok (.value (.agg (at3 W (a.eval x)))) W := by
  obtain ⟨R, o, cs, t, fr, h0, h1, h2⟩ := h
  have e : at3 W (a.eval x) = cs.extract o (o + 3) := by rw [h0]; unfold at3; simp only []; rw [h1]
  rw [e]
  have hr := run_loadVar_mid (P := Tryd.prog) W R o 24 (cs.extract o (o + 3)).toList _ (World.rangeAt_of_block h1 o 3) Tryd.underlying24 rfl (by rw [info_grid3]; simp; omega)
  unfold execOp
  simp only [h0, Instr.loadAt, Instr.sureAddr, Sem.run_bind, Sem.run_pure, Result.andThen_ok, hr]
theorem scr_grd {W : World} {R : Nat} {t : TypeId} {s : Scr} {cv tv gv : Value} (h : W.heap[R]? = some (.cells (scrA s cv tv gv) t (0, 0))) : Ptr3 W (.pointer (some ⟨R, 0, none⟩)) ∧ at3 W (.pointer (some ⟨R, 0, none⟩)) = #[.int .i64 s.w, .int .i64 s.h, cv] := by
  refine ⟨⟨_, _, _, _, _, rfl, h, by show 3 ≤ 22; omega⟩, ?_⟩
  unfold at3
  simp only []
  rw [h]
  rfl
theorem getD_app {α : Type} (l l' : List α) (d : α) (i : Nat) : (l ++ l').getD i d = if i < l.length then l.getD i d else l'.getD (i - l.length) d := by
  by_cases h : i < l.length
  · rw [if_pos h]
    simp [List.getD, List.getElem?_append_left h]
  · rw [if_neg h]
    simp [List.getD, List.getElem?_append_right (Nat.le_of_not_lt h)]
theorem RowsL.app {W : World} {vs vs' : List Value} {l l' : List (List C)} (h : RowsL W vs l) (h' : RowsL W vs' l') : RowsL W (vs ++ vs') (l ++ l') := by
  refine ⟨by rw [List.length_append, List.length_append, h.1, h'.1], fun i hi => ?_⟩
  rw [List.length_append] at hi
  rw [getD_app, getD_app, h.1]
  split
  · exact h.2 i (by assumption)
  · exact h'.2 _ (by omega)
theorem getD_take' {α : Type} (l : List α) (d : α) (k i : Nat) (h : i < k) : (l.take k).getD i d = l.getD i d := by simp [List.getD, List.getElem?_take_of_lt h]
theorem RowsL.take {W : World} {vs : List Value} {l : List (List C)} (h : RowsL W vs l) (k : Nat) : RowsL W (vs.take k) (l.take k) := by
  refine ⟨by rw [List.length_take, List.length_take, h.1], fun i hi => ?_⟩
  rw [List.length_take] at hi
  rw [getD_take' _ _ _ _ (by omega), getD_take' _ _ _ _ (by omega)]
  exact h.2 i (by omega)
theorem rowsAt_list {W : World} {N : Nat} {vs : List Value} {gs : List Nat} {rows : List (List C)} (h : RowsAt W N vs gs rows) : RowsL W vs rows := ⟨h.1, fun i hi => (rowIn_rowB (N := 0) (h.2.2.2 i hi).2).cells⟩
/-- The rest of a list of rows. -/
theorem rowsV_drop {W : World} {g c L : Nat} {vs : List Value} {l : List (List C)} (hc1 : L ≤ c) (hc2 : c ≤ 9223372036854775807) (hcell : ∀ j, j < L → W.cell? ⟨g, j, none⟩ = some (vs.getD j nilV)) (hr : RowsL W vs l) (hl : l.length = L) (d : Nat) (hd : d < L) : RowsV W (.slice (some ⟨g, d, none⟩) (L - d) (c - d)) (l.drop d) := by
  refine .inr ⟨g, d, c - d, by rw [List.length_drop, hl], by rw [List.length_drop]; omega, by omega, fun j hj => ?_⟩
  rw [List.length_drop] at hj
  refine ⟨vs.getD (d + j) nilV, hcell _ (by omega), ?_⟩
  have e : (l.drop d).getD j [] = l.getD (d + j) [] := by simp [List.getD, List.getElem?_drop]
  rw [e]
  exact hr.2 _ (by omega)
theorem kept_g {w W : World} {A : Array Value} (hB : Below w.heap.size w W) :
    ((W.alloc (.cells #[.int .i64 0, .int .i64 0, .slice none 0 0, .int .i64 0, .int .i64 0, .bool false, .int .i64 0, .int .i64 0, .int .i64 0, .int .i64 0, .int .i64 0, .int .i64 0, .slice none 0 0, .int .i64 0, .int .i64 0, .int .i64 0, .int .i64 0, .int .i64 0, .int .i64 0, .int .i32 0, .string ⟨#[]⟩, .slice none 0 0] 32)).setRow W.heap.size A).heap[W.heap.size]? = some (.cells A 32 (0, 0)) ∧ Below W.heap.size W ((W.alloc (.cells #[.int .i64 0, .int .i64 0, .slice none 0 0, .int .i64 0, .int .i64 0, .bool false, .int .i64 0, .int .i64 0, .int .i64 0, .int .i64 0, .int .i64 0, .int .i64 0, .slice none 0 0, .int .i64 0, .int .i64 0, .int .i64 0, .int .i64 0, .int .i64 0, .int .i64 0, .int .i32 0, .string ⟨#[]⟩, .slice none 0 0] 32)).setRow W.heap.size A) ∧ Below w.heap.size w ((W.alloc (.cells #[.int .i64 0, .int .i64 0, .slice none 0 0, .int .i64 0, .int .i64 0, .bool false, .int .i64 0, .int .i64 0, .int .i64 0, .int .i64 0, .int .i64 0, .int .i64 0, .slice none 0 0, .int .i64 0, .int .i64 0, .int .i64 0, .int .i64 0, .int .i64 0, .int .i64 0, .int .i32 0, .string ⟨#[]⟩, .slice none 0 0] 32)).setRow W.heap.size A) ∧ (W.alloc (.cells #[.int .i64 0, .int .i64 0, .slice none 0 0, .int .i64 0, .int .i64 0, .bool false, .int .i64 0, .int .i64 0, .int .i64 0, .int .i64 0, .int .i64 0, .int .i64 0, .slice none 0 0, .int .i64 0, .int .i64 0, .int .i64 0, .int .i64 0, .int .i64 0, .int .i64 0, .int .i32 0, .string ⟨#[]⟩, .slice none 0 0] 32)).heap[W.heap.size]? = some (.cells #[.int .i64 0, .int .i64 0, .slice none 0 0, .int .i64 0, .int .i64 0, .bool false, .int .i64 0, .int .i64 0, .int .i64 0, .int .i64 0, .int .i64 0, .int .i64 0, .slice none 0 0, .int .i64 0, .int .i64 0, .int .i64 0, .int .i64 0, .int .i64 0, .int .i64 0, .int .i32 0, .string ⟨#[]⟩, .slice none 0 0] 32 (0, 0)) := by
  have h1 : Below W.heap.size W ((W.alloc (.cells #[.int .i64 0, .int .i64 0, .slice none 0 0, .int .i64 0, .int .i64 0, .bool false, .int .i64 0, .int .i64 0, .int .i64 0, .int .i64 0, .int .i64 0, .int .i64 0, .slice none 0 0, .int .i64 0, .int .i64 0, .int .i64 0, .int .i64 0, .int .i64 0, .int .i64 0, .int .i32 0, .string ⟨#[]⟩, .slice none 0 0] 32)).setRow W.heap.size A) := below_setRow ((Below.refl _ _).alloc (Nat.le_refl _) _) (Nat.le_refl _) _
  exact ⟨setRow_heap _ _ _ _ _ _ (heap_alloc_new W _), h1, hB.trans (h1.mono hB.size), heap_alloc_new W _⟩
end Put
end Go.Proofs.YtnkeahfcpbepjaaDoor

/- The law ModeKeeps. -/
namespace Go.Proofs.YtnkeahfcpbepjaaDoor
set_option linter.unusedVariables false
open Go.ChangeShapes Go.WideShapes Go.ChangeAt Go.RowKit
namespace Put
open Grd (C SliceAt CellsAt gridErr z0 nilV flat rowsL)
open Sty (isSt)
theorem with_csK (s' : Scr) (cs : List C) (h : cs = s'.cs) : ({ s' with cs := cs } : Scr) = s' := by
  subst h
  rfl
theorem plain_savek : Plain 88 := by
  intro args W
  kernel_rfl
theorem plain_restk : Plain 91 := by
  intro args W
  kernel_rfl
theorem plain_lookk : Plain 89 := by
  intro args W
  kernel_rfl
theorem ksave_any {w0 w : World} {s : Scr} {cv tv gv : Value} {n hh : Nat} (h : Met w0 w s cv tv gv) (hR : RightS s n hh) : Calls Tryd.prog 37 #[.agg (scrA s cv tv gv)] w (Made w0 w (saveS s) 0) :=
  modeSave_calls s _ cv tv gv 0 w0 w h.v h.b.size fun W _ hW => by
    have := md_good (h.next hW) hR _ plain_savek #[] (rowsL n s.cs hh) _ (fun w1 _ => save_does _ w1 s _) (rowsOk_same hR (saveS s) rfl) rfl
    rwa [with_csK (saveS s) _ hR.flatten] at this
theorem ksave_bad {w0 w : World} {s : Scr} {cv tv gv : Value} (h : Met w0 w s cv tv gv) (hz : scrErr s ≠ 0) : Calls Tryd.prog 37 #[.agg (scrA s cv tv gv)] w (Made w0 w zScr (scrErr s)) :=
  modeSave_calls s zScr cv tv gv (scrErr s) w0 w h.v h.b.size fun _ _ hW => md_bad (h.next hW) hz _ _
theorem krest_any {w0 w : World} {s : Scr} {cv tv gv : Value} {n hh : Nat} (h : Met w0 w s cv tv gv) (hR : RightS s n hh) : Calls Tryd.prog 39 #[.agg (scrA s cv tv gv)] w (Made w0 w (restS s) 0) :=
  modeRestore_calls s _ cv tv gv 0 w0 w h.v h.b.size fun W _ hW => by
    have := md_good (h.next hW) hR _ plain_restk #[] (rowsL n s.cs hh) _ (fun w1 _ => restore_does _ w1 s _) (rowsOk_same hR (restS s) rfl) rfl
    rwa [with_csK (restS s) _ hR.flatten] at this
theorem klook_any {w0 w : World} {s : Scr} {cv tv gv : Value} {n hh : Nat} (h : Met w0 w s cv tv gv) (hR : RightS s n hh) (pl : Option Addr) (nl cl : Nat) (xs : List Int) (hT : Stl.Tab w) (hI : Stl.IntsAt w (.slice pl nl cl) xs) (hl : xs.length ≤ 140737488355328) (hw : ∀ x ∈ xs, x ≤ 9223372036854775807) : Calls Tryd.prog 38 #[.agg (scrA s cv tv gv), .slice pl nl cl] w (Made w0 w (lookS s xs) 0) :=
  modeLook_calls s _ cv tv gv pl nl cl 0 w0 w h.v h.b.size fun W B hW hB => by
    have := md_good (h.next hW) hR _ plain_lookk #[.pointer (some ⟨B, 0, none⟩)] (rowsL n s.cs hh) _ (fun w1 hw1 => look_does B _ w1 s _ pl nl cl xs (cell_stay hw1 hB) (styTab_next (styTab_next hT hW) hw1) ((hI.below hW).below hw1) hl hw) (rowsOk_same hR (lookS s xs) rfl) rfl
    rwa [with_csK (lookS s xs) _ hR.flatten] at this
theorem kept_and (m : Int) (h0 : 0 ≤ m) (h1 : m ≤ 63) : keptOk (bits .and .i64 m 6) = true ∧ bits .and .i64 (bits .xor .i64 (bits .or .i64 (bits .andNot .i64 m 6) (bits .and .i64 m 6)) m) 6 = 0 := by
  have key : ∀ k : Fin 64, keptOk (bits .and .i64 (k.val : Int) 6) = true ∧ bits .and .i64 (bits .xor .i64 (bits .or .i64 (bits .andNot .i64 (k.val : Int) 6) (bits .and .i64 (k.val : Int) 6)) (k.val : Int)) 6 = 0 := by decide +kernel
  have h := key ⟨m.toNat, by omega⟩
  have e : ((m.toNat : Nat) : Int) = m := by omega
  simp only [e] at h
  exact h
theorem modesK {s : Scr} {n hh : Nat} (h : RightS s n hh) : 0 ≤ s.modes ∧ s.modes ≤ 63 := by
  have := h.looks
  simp only [looksOk, Bool.and_eq_true, decide_eq_true_eq] at this
  exact this.2.2.1
theorem save_right {s : Scr} {n hh : Nat} (h : RightS s n hh) : RightS (saveS s) n hh := by
  have hm := modesK h
  have hk := h.looks
  simp only [looksOk, Bool.and_eq_true] at hk
  have h2 : looksOk (saveS s) = true := by
    simp only [looksOk, Bool.and_eq_true]
    exact ⟨hk.1, hk.1, hk.2.2.1, (kept_and _ hm.1 hm.2).1⟩
  exact ⟨h.w, h.h, h.n1, h.n2, h.h1, h.h2, h.cl, h.gz, h.x0, h.x1, h.y0, h.y1, h.x0, h.x1, h.y0, h.y1, h.t0, h.t1, h.t2, h.t3, h.late, h2, h.tl, h.la, h.ti, h.gl, h.gr⟩
theorem look_right {s : Scr} {n hh : Nat} (h : RightS s n hh) (xs : List Int) : RightS (lookS s xs) n hh := by
  have hk := h.looks
  simp only [looksOk, Bool.and_eq_true] at hk
  have h2 : looksOk (lookS s xs) = true := by
    simp only [looksOk, Bool.and_eq_true]
    exact ⟨Stl.applyT_keeps xs (s.sf, s.sb, s.sx) hk.1, hk.2.1, hk.2.2.1, hk.2.2.2⟩
  exact ⟨h.w, h.h, h.n1, h.n2, h.h1, h.h2, h.cl, h.gz, h.x0, h.x1, h.y0, h.y1, h.kx0, h.kx1, h.ky0, h.ky1, h.t0, h.t1, h.t2, h.t3, h.late, h2, h.tl, h.la, h.ti, h.gl, h.gr⟩
theorem fits_right {s : Scr} {n hh : Nat} (h : RightS s n hh) (ht : s.title.size ≤ 1048576) : Fits s := by
  have hm := modesK h
  have hk := h.looks
  simp only [looksOk, Bool.and_eq_true] at hk
  have h4 : s.km = 0 ∨ s.km = 2 ∨ s.km = 4 ∨ s.km = 6 := by simpa [keptOk] using hk.2.2.2
  exact ⟨by omega, by omega, by omega, by omega, ht, by have := h.gl; omega, by have := h.tl; have := h.n2; omega⟩
end Put
end Go.Proofs.YtnkeahfcpbepjaaDoor

/- The law ModeKeeps. (Written by gen_modekeeps.py.) -/
namespace Go.Proofs.YtnkeahfcpbepjaaDoor
set_option linter.unusedVariables false
open Go.ChangeShapes Go.WideShapes Go.ChangeAt Go.RowKit
namespace Put
open Grd (C SliceAt CellsAt gridErr z0 nilV rowsL RowsAt RowB flat)
theorem eql_sty (f b x : Int) (w : World) : (binOp .eql 26 (.agg #[.int .i64 f, .int .i64 b, .int .i64 x]) (.agg #[.int .i64 f, .int .i64 b, .int .i64 x])).run Tryd.prog w = .ok (.bool true) w := by
  rw [Sty.eq_agg]; simp
theorem sty_scr {W : World} {R : Nat} {t : TypeId} {s : Scr} {cv tv gv : Value} (h : W.heap[R]? = some (.cells (scrA s cv tv gv) t (0, 0))) : StyPtr W (.pointer (some ⟨R, 6, none⟩)) ∧ styOf W (.pointer (some ⟨R, 6, none⟩)) = #[.int .i64 s.sf, .int .i64 s.sb, .int .i64 s.sx] := by
  refine ⟨⟨_, _, _, _, _, rfl, h, by show 9 ≤ 22; omega⟩, ?_⟩
  unfold styOf
  simp only []
  rw [h]
  rfl
set_option maxHeartbeats 8000000 in
set_option maxRecDepth 100000 in
theorem keeps_bad (s : Scr) (cv tv gv : Value) (t : ByteArray) (y x : Int) (pl : Option Addr) (nl cl : Nat) (w : World) (hT : Txt.Tab w) (hV : ScrV w s cv tv gv) (hF : Fits s) (hz : scrErr s ≠ 0) :
    Calls Tryd.prog 9 #[.agg (scrA s cv tv gv), .string t, .int .i64 y, .int .i64 x, .slice pl nl cl] w fun e w' => e = .returned (.bool true) ∧ Below w.heap.size w w' := by
  have x0 := heap_alloc_new w (.cells (scrA s cv tv gv) 32)
  have kb : Below w.heap.size w (w.alloc (.cells (scrA s cv tv gv) 32)) := (Below.refl _ _).alloc (Nat.le_refl _) _
  have HP : Hid (∀ W, Below w.heap.size w W → Calls Tryd.prog 11 #[] W fun e w' => e = .returned (.bool true) ∧ Below W.heap.size W w') := fun W h => printed_any W (Grd.Tab.next hT h)
  have HS := ksave_bad (w0 := w) ⟨Grd.Tab.next hT kb, hV, kb, hF⟩ hz
  have hzb : (scrErr s != 0) = true := by simp [bne, hz]
  clear hz
  generalize scrErr s = er at *
  have HX0b : Hid _ := x0
  have HKB : Hid _ := kb
  clear x0 kb hT hV hF
  go_enter Tryd.func9, Tryd.ntmps9
  go_wp2_with (refine wpList_load_row rfl 32 (.tmp 5) rfl w.heap.size rfl _ _ _ _ HX0b.out Tryd.underlying32 rfl (by kernel_rfl) ?_)
  refine HS.mono ?_
  rintro e V1 ⟨cv1, tv1, gv1, rfl, hO, b1⟩
  have hv1 := hO.scr
  obtain ⟨d11, m11, e11, d12, m12, e12, d13, m13, e13, rfl, rfl, rfl⟩ := hO.shapes
  have HB1 : Hid (Below w.heap.size w V1) := HKB.out.trans (b1.mono HKB.out.size)
  have HX1 : Hid (V1.heap[w.heap.size]? = _) := Grd.carry HX0b.out b1
  obtain ⟨k1, k2, k3, k4⟩ := kept_g (A := (scrA zScr (.slice d11 m11 e11) (.slice d12 m12 e12) (.slice d13 m13 e13))) HB1.out
  have HM1 : Hid _ := k1
  have HN1 : Hid _ := k3
  have HL1 : Hid _ := k4
  have HX1b : Hid _ := Grd.carry HX1.out k2
  have HV1 : Hid (ScrV _ zScr _ _ _) := hv1.next k2
  clear hO b1 k1 k2 k3 k4 hv1 HX1 HX0b
  go_upto_region 2 with (refine wpList_store_row rfl 32 (.tmp 11) _ rfl V1.heap.size (scrA zScr (.slice d11 m11 e11) (.slice d12 m12 e12) (.slice d13 m13 e13)) rfl rfl _ _ HL1.out (by kernel_rfl) rfl (scr_one _ _ _ _ _ _ _ _ _ _) ?_)
  clear HL1 HB1
  generalize ((V1.alloc (.cells #[.int .i64 0, .int .i64 0, .slice none 0 0, .int .i64 0, .int .i64 0, .bool false, .int .i64 0, .int .i64 0, .int .i64 0, .int .i64 0, .int .i64 0, .int .i64 0, .slice none 0 0, .int .i64 0, .int .i64 0, .int .i64 0, .int .i64 0, .int .i64 0, .int .i64 0, .int .i32 0, .string ⟨#[]⟩, .slice none 0 0] 32)).setRow V1.heap.size (scrA zScr (.slice d11 m11 e11) (.slice d12 m12 e12) (.slice d13 m13 e13))) = X1 at *
  go_wp2_with fail
  refine (HP.out _ HN1.out).mono ?_
  rintro e V2 ⟨rfl, b2⟩
  have HB2 : Hid (Below w.heap.size w V2) := HN1.out.trans (b2.mono HN1.out.size)
  clear b2
  go_wp2_with fail
  refine (HP.out _ HB2.out).mono ?_
  rintro e V3 ⟨rfl, b3⟩
  have HB3 : Hid (Below w.heap.size w V3) := HB2.out.trans (b3.mono HB2.out.size)
  clear b3
  go_wp2_with fail
  go_ret
  exact ⟨rfl, HB3.out⟩
set_option maxHeartbeats 8000000 in
set_option maxRecDepth 100000 in
theorem keeps_long (s : Scr) (cv tv gv : Value) (t : ByteArray) (y x : Int) (pl : Option Addr) (nl cl : Nat) (w : World) (hT : Txt.Tab w) (hV : ScrV w s cv tv gv) (hF : Fits s) (n hh : Nat) (hR : RightS s n hh) (ht : 4000 < t.size) (ht2 : t.size ≤ 1048576) :
    Calls Tryd.prog 9 #[.agg (scrA s cv tv gv), .string t, .int .i64 y, .int .i64 x, .slice pl nl cl] w fun e w' => e = .returned (.bool true) ∧ Below w.heap.size w w' := by
  have x0 := heap_alloc_new w (.cells (scrA s cv tv gv) 32)
  have kb : Below w.heap.size w (w.alloc (.cells (scrA s cv tv gv) 32)) := (Below.refl _ _).alloc (Nat.le_refl _) _
  have HP : Hid (∀ W, Below w.heap.size w W → Calls Tryd.prog 11 #[] W fun e w' => e = .returned (.bool true) ∧ Below W.heap.size W w') := fun W h => printed_any W (Grd.Tab.next hT h)
  have HS := ksave_any (w0 := w) ⟨Grd.Tab.next hT kb, hV, kb, hF⟩ hR
  obtain ⟨s1, hs1⟩ : ∃ s1 : Scr, s1 = saveS s := ⟨_, rfl⟩
  rw [← hs1] at HS
  have hlt : (4000 : Int) < (t.size : Int) := by omega
  clear hs1 ht hR
  have HX0b : Hid _ := x0
  have HKB : Hid _ := kb
  clear x0 kb hT hV hF
  go_enter Tryd.func9, Tryd.ntmps9
  go_wp2_with (refine wpList_load_row rfl 32 (.tmp 5) rfl w.heap.size rfl _ _ _ _ HX0b.out Tryd.underlying32 rfl (by kernel_rfl) ?_)
  refine HS.mono ?_
  rintro e V1 ⟨cv1, tv1, gv1, rfl, hO, b1⟩
  have hv1 := hO.scr
  obtain ⟨d11, m11, e11, d12, m12, e12, d13, m13, e13, rfl, rfl, rfl⟩ := hO.shapes
  have HB1 : Hid (Below w.heap.size w V1) := HKB.out.trans (b1.mono HKB.out.size)
  have HX1 : Hid (V1.heap[w.heap.size]? = _) := Grd.carry HX0b.out b1
  obtain ⟨k1, k2, k3, k4⟩ := kept_g (A := (scrA s1 (.slice d11 m11 e11) (.slice d12 m12 e12) (.slice d13 m13 e13))) HB1.out
  have HM1 : Hid _ := k1
  have HN1 : Hid _ := k3
  have HL1 : Hid _ := k4
  have HX1b : Hid _ := Grd.carry HX1.out k2
  have HV1 : Hid (ScrV _ s1 _ _ _) := hv1.next k2
  clear hO b1 k1 k2 k3 k4 hv1 HX1 HX0b
  go_upto_region 2 with (refine wpList_store_row rfl 32 (.tmp 11) _ rfl V1.heap.size (scrA s1 (.slice d11 m11 e11) (.slice d12 m12 e12) (.slice d13 m13 e13)) rfl rfl _ _ HL1.out (by kernel_rfl) rfl (scr_one _ _ _ _ _ _ _ _ _ _) ?_)
  clear HL1 HB1
  generalize ((V1.alloc (.cells #[.int .i64 0, .int .i64 0, .slice none 0 0, .int .i64 0, .int .i64 0, .bool false, .int .i64 0, .int .i64 0, .int .i64 0, .int .i64 0, .int .i64 0, .int .i64 0, .slice none 0 0, .int .i64 0, .int .i64 0, .int .i64 0, .int .i64 0, .int .i64 0, .int .i64 0, .int .i32 0, .string ⟨#[]⟩, .slice none 0 0] 32)).setRow V1.heap.size (scrA s1 (.slice d11 m11 e11) (.slice d12 m12 e12) (.slice d13 m13 e13))) = X1 at *
  go_wp2_with fail
  refine (HP.out _ HN1.out).mono ?_
  rintro e V2 ⟨rfl, b2⟩
  have HB2 : Hid (Below w.heap.size w V2) := HN1.out.trans (b2.mono HN1.out.size)
  clear b2
  go_wp2_with fail
  refine (HP.out _ HB2.out).mono ?_
  rintro e V3 ⟨rfl, b3⟩
  have HB3 : Hid (Below w.heap.size w V3) := HB2.out.trans (b3.mono HB2.out.size)
  clear b3
  go_wp2_with fail
  go_ret
  exact ⟨rfl, HB3.out⟩
section
attribute [local go_sem ↓] load_sty
set_option maxHeartbeats 8000000 in
set_option maxRecDepth 100000 in
theorem keeps_good (s : Scr) (cv tv gv : Value) (t : ByteArray) (y x : Int) (pl : Option Addr) (nl cl : Nat) (w : World) (hT : Txt.Tab w) (hV : ScrV w s cv tv gv) (hF : Fits s) (n hh : Nat) (hR : RightS s n hh) (ht : t.size ≤ 4000) (hS : Stl.Tab w) (xs : List Int) (hI : Stl.IntsAt w (.slice pl nl cl) xs) (hl : xs.length ≤ 140737488355328) (hw : ∀ x ∈ xs, x ≤ 9223372036854775807) :
    Calls Tryd.prog 9 #[.agg (scrA s cv tv gv), .string t, .int .i64 y, .int .i64 x, .slice pl nl cl] w fun e w' => e = .returned (.bool true) ∧ Below w.heap.size w w' := by
  have x0 := heap_alloc_new w (.cells (scrA s cv tv gv) 32)
  have kb : Below w.heap.size w (w.alloc (.cells (scrA s cv tv gv) 32)) := (Below.refl _ _).alloc (Nat.le_refl _) _
  have HP : Hid (∀ W, Below w.heap.size w W → Calls Tryd.prog 11 #[] W fun e w' => e = .returned (.bool true) ∧ Below W.heap.size W w') := fun W h => printed_any W (Grd.Tab.next hT h)
  have HS := ksave_any (w0 := w) ⟨Grd.Tab.next hT kb, hV, kb, hF⟩ hR
  have hm := modesK hR
  have hkm := (kept_and s.modes hm.1 hm.2).2
  obtain ⟨s1, hs1⟩ : ∃ s1 : Scr, s1 = saveS s := ⟨_, rfl⟩
  rw [← hs1] at HS
  have hR1 : RightS s1 n hh := by rw [hs1]; exact save_right hR
  have hT1 : s1.title = s.title := by rw [hs1]; rfl
  have hF1 := fits_right hR1 (by rw [hT1]; exact hF.tl)
  obtain ⟨s2, hs2⟩ : ∃ s2 : Scr, s2 = { (stP n t s1 (rowsL n s1.cs hh) (Txt.runes t).length).1 with cs := (stP n t s1 (rowsL n s1.cs hh) (Txt.runes t).length).2.flatten } := ⟨_, rfl⟩
  have hH : Held s2 s1 := by rw [hs2]; exact stP_held n t s1 (rowsL n s1.cs hh) (Txt.runes t).length
  have hR2 : RightS s2 n hh := by rw [hs2]; exact ((PJ.start hR1).text t (Txt.runes t).length).r
  have HC2 : Hid (∀ w0 W cv' tv' gv', Below w.heap.size w W → ScrV w0 s1 cv' tv' gv' → Below w0.heap.size w0 W → Calls Tryd.prog 18 #[.agg (scrA s1 cv' tv' gv'), .string t] W (Made w0 W s2 0)) := fun w0 W cv' tv' gv' h hv hb => by rw [hs2]; exact (ptext_any (w0 := w0) ⟨Grd.Tab.next hT h, hv, hb, hF1⟩ hR1 t ht).1
  obtain ⟨-, -, -, -, -, -, -, q8, -, q10, q11, q12, q13, q14, q15, q16⟩ := hH
  have hF2 := fits_right hR2 (by rw [q16, hT1]; exact hF.tl)
  obtain ⟨s3, hs3⟩ : ∃ s3 : Scr, s3 = movedS s2 (cnt x - 1) (rowTo s2 y) := ⟨_, rfl⟩
  have hR3 : RightS s3 n hh := by rw [hs3]; exact moved_right hR2 _ _
  have hF3 : Fits s3 := by rw [hs3]; exact moved_fits hF2 _ _
  have HC3 : Hid (∀ w0 W cv' tv' gv', Below w.heap.size w W → ScrV w0 s2 cv' tv' gv' → Below w0.heap.size w0 W → Calls Tryd.prog 31 #[.agg (scrA s2 cv' tv' gv'), .int .i64 y, .int .i64 x] W (Made w0 W s3 0)) := fun w0 W cv' tv' gv' h hv hb => by rw [hs3]; exact to_any (w0 := w0) ⟨Grd.Tab.next hT h, hv, hb, hF2⟩ hR2 y x
  obtain ⟨s4, hs4⟩ : ∃ s4 : Scr, s4 = lookS s3 xs := ⟨_, rfl⟩
  have hR4 : RightS s4 n hh := by rw [hs4]; exact look_right hR3 xs
  have hF4 : Fits s4 := by rw [hs4]; exact ⟨hF3.m0, hF3.m1, hF3.k0, hF3.k1, hF3.tl, hF3.gl, hF3.bl⟩
  have HC4 : Hid (∀ w0 W cv' tv' gv', Below w.heap.size w W → ScrV w0 s3 cv' tv' gv' → Below w0.heap.size w0 W → Calls Tryd.prog 38 #[.agg (scrA s3 cv' tv' gv'), .slice pl nl cl] W (Made w0 W s4 0)) := fun w0 W cv' tv' gv' h hv hb => by rw [hs4]; exact klook_any (w0 := w0) ⟨Grd.Tab.next hT h, hv, hb, hF3⟩ hR3 pl nl cl xs (styTab_next hS h) (hI.below h) hl hw
  obtain ⟨s5, hs5⟩ : ∃ s5 : Scr, s5 = restS s4 := ⟨_, rfl⟩
  have HC5 : Hid (∀ w0 W cv' tv' gv', Below w.heap.size w W → ScrV w0 s4 cv' tv' gv' → Below w0.heap.size w0 W → Calls Tryd.prog 39 #[.agg (scrA s4 cv' tv' gv')] W (Made w0 W s5 0)) := fun w0 W cv' tv' gv' h hv hb => by rw [hs5]; exact krest_any (w0 := w0) ⟨Grd.Tab.next hT h, hv, hb, hF4⟩ hR4
  have r1 : s5.x = s.x := by rw [hs5, hs4, hs3]; show s2.kx = s.x; rw [q10, hs1]; rfl
  have r2 : s5.y = s.y := by rw [hs5, hs4, hs3]; show s2.ky = s.y; rw [q11, hs1]; rfl
  have r3 : s5.sf = s.sf := by rw [hs5, hs4, hs3]; show s2.kf = s.sf; rw [q12, hs1]; rfl
  have r4 : s5.sb = s.sb := by rw [hs5, hs4, hs3]; show s2.kb = s.sb; rw [q13, hs1]; rfl
  have r5 : s5.sx = s.sx := by rw [hs5, hs4, hs3]; show s2.kbits = s.sx; rw [q14, hs1]; rfl
  have r6 : s5.late = false := by rw [hs5]; rfl
  have r7 : bits .and .i64 (bits .xor .i64 s5.modes s.modes) 6 = 0 := by
    rw [hs5, hs4, hs3]
    show bits .and .i64 (bits .xor .i64 (bits .or .i64 (bits .andNot .i64 s2.modes 6) s2.km) s.modes) 6 = 0
    rw [q8, q15, hs1]
    exact hkm
  have R : Hid (s5.x = s.x ∧ s5.y = s.y ∧ s5.sf = s.sf ∧ s5.sb = s.sb ∧ s5.sx = s.sx ∧ s5.late = false) := ⟨r1, r2, r3, r4, r5, r6⟩
  have R7 : Hid _ := r7
  have hlt : ¬ ((4000 : Int) < (t.size : Int)) := by omega
  have HX0b : Hid _ := x0
  have HKB : Hid _ := kb
  clear x0 kb hT hV hF hs1 hs2 hs3 hs4 hs5 hR hR1 hR2 hR3 hR4 hF1 hF2 hF3 hF4 hT1 q8 q10 q11 q12 q13 q14 q15 q16 r1 r2 r3 r4 r5 r6 r7 hkm hm hS hI hl hw ht
  go_enter Tryd.func9, Tryd.ntmps9
  go_wp2_with (refine wpList_load_row rfl 32 (.tmp 5) rfl w.heap.size rfl _ _ _ _ HX0b.out Tryd.underlying32 rfl (by kernel_rfl) ?_)
  refine HS.mono ?_
  rintro e V1 ⟨cv1, tv1, gv1, rfl, hO, b1⟩
  have hv1 := hO.scr
  obtain ⟨d11, m11, e11, d12, m12, e12, d13, m13, e13, rfl, rfl, rfl⟩ := hO.shapes
  have HB1 : Hid (Below w.heap.size w V1) := HKB.out.trans (b1.mono HKB.out.size)
  have HX1 : Hid (V1.heap[w.heap.size]? = _) := Grd.carry HX0b.out b1
  obtain ⟨k1, k2, k3, k4⟩ := kept_g (A := (scrA s1 (.slice d11 m11 e11) (.slice d12 m12 e12) (.slice d13 m13 e13))) HB1.out
  have HM1 : Hid _ := k1
  have HN1 : Hid _ := k3
  have HL1 : Hid _ := k4
  have HX1b : Hid _ := Grd.carry HX1.out k2
  have HV1 : Hid (ScrV _ s1 _ _ _) := hv1.next k2
  clear hO b1 k1 k2 k3 k4 hv1 HX1 HX0b
  go_upto_region 2 with (refine wpList_store_row rfl 32 (.tmp 11) _ rfl V1.heap.size (scrA s1 (.slice d11 m11 e11) (.slice d12 m12 e12) (.slice d13 m13 e13)) rfl rfl _ _ HL1.out (by kernel_rfl) rfl (scr_one _ _ _ _ _ _ _ _ _ _) ?_)
  clear HL1 HB1
  generalize ((V1.alloc (.cells #[.int .i64 0, .int .i64 0, .slice none 0 0, .int .i64 0, .int .i64 0, .bool false, .int .i64 0, .int .i64 0, .int .i64 0, .int .i64 0, .int .i64 0, .int .i64 0, .slice none 0 0, .int .i64 0, .int .i64 0, .int .i64 0, .int .i64 0, .int .i64 0, .int .i64 0, .int .i32 0, .string ⟨#[]⟩, .slice none 0 0] 32)).setRow V1.heap.size (scrA s1 (.slice d11 m11 e11) (.slice d12 m12 e12) (.slice d13 m13 e13))) = X1 at *
  go_wp2_with fail
  refine (HP.out _ HN1.out).mono ?_
  rintro e Y ⟨rfl, b2⟩
  have HB2 : Hid (Below w.heap.size w Y) := HN1.out.trans (b2.mono HN1.out.size)
  have HVY : Hid (ScrV Y s1 _ _ _) := HV1.out.next b2
  have HMY : Hid (Y.heap[V1.heap.size]? = _) := Grd.carry HM1.out b2
  have HXY : Hid (Y.heap[w.heap.size]? = _) := Grd.carry HX1b.out b2
  clear b2 HV1 HM1 HX1b HN1 HS HP HKB
  have HX1b := HXY
  clear HXY
  go_wp2_with (refine wpList_load_row rfl 32 (.tmp 11) rfl V1.heap.size rfl _ _ _ _ HMY.out Tryd.underlying32 rfl (by kernel_rfl) ?_)
  refine (HC2.out Y Y _ _ _ HB2.out HVY.out (Below.refl _ _)).mono ?_
  clear HC2
  rintro e V2 ⟨cv2, tv2, gv2, rfl, hO, b1⟩
  have hv2 := hO.scr
  obtain ⟨d21, m21, e21, d22, m22, e22, d23, m23, e23, rfl, rfl, rfl⟩ := hO.shapes
  have HB2 : Hid (Below w.heap.size w V2) := HB2.out.trans (b1.mono HB2.out.size)
  have HX2 : Hid (V2.heap[w.heap.size]? = _) := Grd.carry HX1b.out b1
  obtain ⟨k1, k2, k3, k4⟩ := kept_g (A := (scrA s2 (.slice d21 m21 e21) (.slice d22 m22 e22) (.slice d23 m23 e23))) HB2.out
  have HM2 : Hid _ := k1
  have HN2 : Hid _ := k3
  have HL2 : Hid _ := k4
  have HX2b : Hid _ := Grd.carry HX2.out k2
  have HV2 : Hid (ScrV _ s2 _ _ _) := hv2.next k2
  clear hO b1 k1 k2 k3 k4 hv2 HX2 HX1b
  go_upto_region 5 with (refine wpList_store_row rfl 32 (.tmp 13) _ rfl V2.heap.size (scrA s2 (.slice d21 m21 e21) (.slice d22 m22 e22) (.slice d23 m23 e23)) rfl rfl _ _ HL2.out (by kernel_rfl) rfl (scr_one _ _ _ _ _ _ _ _ _ _) ?_)
  clear HL2 HB2
  generalize ((V2.alloc (.cells #[.int .i64 0, .int .i64 0, .slice none 0 0, .int .i64 0, .int .i64 0, .bool false, .int .i64 0, .int .i64 0, .int .i64 0, .int .i64 0, .int .i64 0, .int .i64 0, .slice none 0 0, .int .i64 0, .int .i64 0, .int .i64 0, .int .i64 0, .int .i64 0, .int .i64 0, .int .i32 0, .string ⟨#[]⟩, .slice none 0 0] 32)).setRow V2.heap.size (scrA s2 (.slice d21 m21 e21) (.slice d22 m22 e22) (.slice d23 m23 e23))) = X2 at *
  clear HVY HMY
  go_wp2_with (refine wpList_load_row rfl 32 (.tmp 13) rfl V2.heap.size rfl _ _ _ _ HM2.out Tryd.underlying32 rfl (by kernel_rfl) ?_)
  refine (HC3.out X2 X2 _ _ _ HN2.out HV2.out (Below.refl _ _)).mono ?_
  clear HC3
  rintro e V3 ⟨cv3, tv3, gv3, rfl, hO, b1⟩
  have hv3 := hO.scr
  obtain ⟨d31, m31, e31, d32, m32, e32, d33, m33, e33, rfl, rfl, rfl⟩ := hO.shapes
  have HB3 : Hid (Below w.heap.size w V3) := HN2.out.trans (b1.mono HN2.out.size)
  have HX3 : Hid (V3.heap[w.heap.size]? = _) := Grd.carry HX2b.out b1
  obtain ⟨k1, k2, k3, k4⟩ := kept_g (A := (scrA s3 (.slice d31 m31 e31) (.slice d32 m32 e32) (.slice d33 m33 e33))) HB3.out
  have HM3 : Hid _ := k1
  have HN3 : Hid _ := k3
  have HL3 : Hid _ := k4
  have HX3b : Hid _ := Grd.carry HX3.out k2
  have HV3 : Hid (ScrV _ s3 _ _ _) := hv3.next k2
  clear hO b1 k1 k2 k3 k4 hv3 HX3 HX2b
  go_upto_region 6 with (refine wpList_store_row rfl 32 (.tmp 14) _ rfl V3.heap.size (scrA s3 (.slice d31 m31 e31) (.slice d32 m32 e32) (.slice d33 m33 e33)) rfl rfl _ _ HL3.out (by kernel_rfl) rfl (scr_one _ _ _ _ _ _ _ _ _ _) ?_)
  clear HL3 HB3
  generalize ((V3.alloc (.cells #[.int .i64 0, .int .i64 0, .slice none 0 0, .int .i64 0, .int .i64 0, .bool false, .int .i64 0, .int .i64 0, .int .i64 0, .int .i64 0, .int .i64 0, .int .i64 0, .slice none 0 0, .int .i64 0, .int .i64 0, .int .i64 0, .int .i64 0, .int .i64 0, .int .i64 0, .int .i32 0, .string ⟨#[]⟩, .slice none 0 0] 32)).setRow V3.heap.size (scrA s3 (.slice d31 m31 e31) (.slice d32 m32 e32) (.slice d33 m33 e33))) = X3 at *
  clear HV2 HM2
  go_wp2_with (refine wpList_load_row rfl 32 (.tmp 14) rfl V3.heap.size rfl _ _ _ _ HM3.out Tryd.underlying32 rfl (by kernel_rfl) ?_)
  refine (HC4.out X3 X3 _ _ _ HN3.out HV3.out (Below.refl _ _)).mono ?_
  clear HC4
  rintro e V4 ⟨cv4, tv4, gv4, rfl, hO, b1⟩
  have hv4 := hO.scr
  obtain ⟨d41, m41, e41, d42, m42, e42, d43, m43, e43, rfl, rfl, rfl⟩ := hO.shapes
  have HB4 : Hid (Below w.heap.size w V4) := HN3.out.trans (b1.mono HN3.out.size)
  have HX4 : Hid (V4.heap[w.heap.size]? = _) := Grd.carry HX3b.out b1
  obtain ⟨k1, k2, k3, k4⟩ := kept_g (A := (scrA s4 (.slice d41 m41 e41) (.slice d42 m42 e42) (.slice d43 m43 e43))) HB4.out
  have HM4 : Hid _ := k1
  have HN4 : Hid _ := k3
  have HL4 : Hid _ := k4
  have HX4b : Hid _ := Grd.carry HX4.out k2
  have HV4 : Hid (ScrV _ s4 _ _ _) := hv4.next k2
  clear hO b1 k1 k2 k3 k4 hv4 HX4 HX3b
  go_upto_region 7 with (refine wpList_store_row rfl 32 (.tmp 16) _ rfl V4.heap.size (scrA s4 (.slice d41 m41 e41) (.slice d42 m42 e42) (.slice d43 m43 e43)) rfl rfl _ _ HL4.out (by kernel_rfl) rfl (scr_one _ _ _ _ _ _ _ _ _ _) ?_)
  clear HL4 HB4
  generalize ((V4.alloc (.cells #[.int .i64 0, .int .i64 0, .slice none 0 0, .int .i64 0, .int .i64 0, .bool false, .int .i64 0, .int .i64 0, .int .i64 0, .int .i64 0, .int .i64 0, .int .i64 0, .slice none 0 0, .int .i64 0, .int .i64 0, .int .i64 0, .int .i64 0, .int .i64 0, .int .i64 0, .int .i32 0, .string ⟨#[]⟩, .slice none 0 0] 32)).setRow V4.heap.size (scrA s4 (.slice d41 m41 e41) (.slice d42 m42 e42) (.slice d43 m43 e43))) = X4 at *
  clear HV3 HM3
  go_wp2_with (refine wpList_load_row rfl 32 (.tmp 16) rfl V4.heap.size rfl _ _ _ _ HM4.out Tryd.underlying32 rfl (by kernel_rfl) ?_)
  refine (HC5.out X4 X4 _ _ _ HN4.out HV4.out (Below.refl _ _)).mono ?_
  clear HC5
  rintro e V5 ⟨cv5, tv5, gv5, rfl, hO, b1⟩
  have hv5 := hO.scr
  obtain ⟨d51, m51, e51, d52, m52, e52, d53, m53, e53, rfl, rfl, rfl⟩ := hO.shapes
  have HB5 : Hid (Below w.heap.size w V5) := HN4.out.trans (b1.mono HN4.out.size)
  have HX5 : Hid (V5.heap[w.heap.size]? = _) := Grd.carry HX4b.out b1
  obtain ⟨k1, k2, k3, k4⟩ := kept_g (A := (scrA s5 (.slice d51 m51 e51) (.slice d52 m52 e52) (.slice d53 m53 e53))) HB5.out
  have HM5 : Hid _ := k1
  have HN5 : Hid _ := k3
  have HL5 : Hid _ := k4
  have HX5b : Hid _ := Grd.carry HX5.out k2
  have HV5 : Hid (ScrV _ s5 _ _ _) := hv5.next k2
  clear hO b1 k1 k2 k3 k4 hv5 HX5 HX4b
  go_upto_region 8 with (refine wpList_store_row rfl 32 (.tmp 18) _ rfl V5.heap.size (scrA s5 (.slice d51 m51 e51) (.slice d52 m52 e52) (.slice d53 m53 e53)) rfl rfl _ _ HL5.out (by kernel_rfl) rfl (scr_one _ _ _ _ _ _ _ _ _ _) ?_)
  clear HL5 HB5
  generalize ((V5.alloc (.cells #[.int .i64 0, .int .i64 0, .slice none 0 0, .int .i64 0, .int .i64 0, .bool false, .int .i64 0, .int .i64 0, .int .i64 0, .int .i64 0, .int .i64 0, .int .i64 0, .slice none 0 0, .int .i64 0, .int .i64 0, .int .i64 0, .int .i64 0, .int .i64 0, .int .i64 0, .int .i32 0, .string ⟨#[]⟩, .slice none 0 0] 32)).setRow V5.heap.size (scrA s5 (.slice d51 m51 e51) (.slice d52 m52 e52) (.slice d53 m53 e53))) = X5 at *
  clear HV4 HM4 HV5
  obtain ⟨⟨-, -, -, c3, c4, -, -, -, -, -, -⟩, ⟨c11, -⟩, -⟩ := scr_cells HX5b.out
  obtain ⟨⟨-, -, -, d3, d4, d5, -, -, -, -, -⟩, ⟨d11, -⟩, -⟩ := scr_cells HM5.out
  obtain ⟨p1, p2⟩ := sty_scr HX5b.out
  obtain ⟨p3, p4⟩ := sty_scr HM5.out
  have eq := eql_sty s.sf s.sb s.sx
  rw [R.out.1] at d3
  rw [R.out.2.1] at d4
  rw [R.out.2.2.2.2.2] at d5
  rw [R.out.2.2.1, R.out.2.2.2.1, R.out.2.2.2.2.1] at p4
  have r7 := R7.out
  clear HM5 HX5b HN2 HN3 HN4 HB2
  go_wp2_with fail
  go_ret
  exact ⟨rfl, HN5.out⟩
end
theorem modeKeeps_walk (s : Scr) (cv tv gv : Value) (t : ByteArray) (y x : Int) (pl : Option Addr) (nl cl : Nat) (w : World) (hT : Txt.Tab w) (hV : ScrV w s cv tv gv) (hF : Fits s) (hS : Stl.Tab w) (xs : List Int) (hI : Stl.IntsAt w (.slice pl nl cl) xs) (hl : xs.length ≤ 140737488355328) (hw : ∀ x ∈ xs, x ≤ 9223372036854775807) (ht : t.size ≤ 1048576) :
    Calls Tryd.prog 9 #[.agg (scrA s cv tv gv), .string t, .int .i64 y, .int .i64 x, .slice pl nl cl] w fun e w' => e = .returned (.bool true) ∧ Below w.heap.size w w' := by
  by_cases hz : scrErr s = 0
  · obtain ⟨n, hh, hR⟩ := right_of s hz
    by_cases h4 : t.size ≤ 4000
    · exact keeps_good s cv tv gv t y x pl nl cl w hT hV hF n hh hR h4 hS xs hI hl hw
    · exact keeps_long s cv tv gv t y x pl nl cl w hT hV hF n hh hR (by omega) ht
  · exact keeps_bad s cv tv gv t y x pl nl cl w hT hV hF hz
end Put
end Go.Proofs.YtnkeahfcpbepjaaDoor
