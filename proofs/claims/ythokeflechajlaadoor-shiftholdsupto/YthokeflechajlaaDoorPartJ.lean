/- (*sheet.Sheet).keep, Up: a row goes behind all that is gone. -/
import Derived.Test.YthokeflechajlaaDoorPartI
import Derived.Maps.AppendAt
import Derived.Test.YthokeflechajlaaDoorPartH
import Derived.Test.YthokeflechajlaaDoorPartG
import Derived.BigRegion
import Derived.Deep.RegionHeld3
import Derived.BigQuiet
import Derived.Deep.RegionWith
namespace Go.Proofs.YthokeflechajlaaDoor
open Go.ChangeShapes Go.WideShapes Go.ChangeAt Go.RowKit
namespace Put
open Grd (C SliceAt CellsAt gridErr z0 nilV flat rowsL OwnG RowB)
/-- What is gone, and one row more. -/
def keepG (g : List (List C)) (row : List C) : List (List C) := if g.length < 50 then g ++ [row] else (g ++ [row]).eraseIdx 0
theorem keepG_len (g : List (List C)) (row : List C) (h : g.length ≤ 50) : (keepG g row).length ≤ 50 := by
  unfold keepG
  split
  · rw [List.length_append, List.length_singleton]
    omega
  · rw [List.length_eraseIdx_of_lt (by simp), List.length_append, List.length_singleton]
    omega
theorem RowsIn.push {W : World} {N : Nat} {vs : List Value} {rows : List (List C)} (h : RowsIn W N vs rows) (v : Value) (row : List C) (hr : RowIn W N v row) : RowsIn W N (vs ++ [v]) (rows ++ [row]) := by
  have hl := h.1
  refine ⟨by simp [hl], fun i hi => ?_⟩
  rw [List.length_append, List.length_singleton] at hi
  simp only [List.getD]
  by_cases e : i < rows.length
  · rw [List.getElem?_append_left (by omega), List.getElem?_append_left e]
    exact h.2 i e
  · have e2 : i = rows.length := by omega
    subst e2
    rw [List.getElem?_append_right (by omega), List.getElem?_append_right (Nat.le_refl _), hl]
    simpa using hr
theorem cell_news (W : World) (v : Value) (t : TypeId) : ∀ j u, [v][j]? = some u → (W.alloc (.cells #[v] t)).cell? ((⟨W.heap.size, 0, none⟩ : Addr).add j) = some u := fun j u hj => by
  have h := heap_alloc_new W (.cells #[v] t)
  generalize W.alloc (.cells #[v] t) = X at *
  rw [Addr.add_lit]
  match j, hj with
  | 0, hj =>
    rw [← Option.some.inj hj]
    simp [World.cell?, h]
/-- Another list of what is gone. -/
theorem ShA.goneNew {W V : World} {M N p : Nat} {s s' : Scr} {rows : List (List C)} {cv tv gv gv' rv : Value} {gvs vs gvs' : List Value} (h : ShA 63 W M N p s rows cv tv gv rv gvs vs) (hs' : { s with gone := s'.gone } = s')
    (ho : ∀ k, k < W.heap.size → some k ≠ gv.ownBlock → V.heap[k]? = W.heap[k]?) (hw : V.ownsRow N 22 1 gv' s'.gone.length gvs') (hr : RowsIn V M gvs' s'.gone) (hat : gv'.ownBlock = gv.ownBlock ∨ ∃ k, gv'.ownBlock = some k ∧ W.heap.size ≤ k) :
    ShA 63 (V.setCell ⟨p, 21, none⟩ gv') M N p s' rows cv tv gv' rv gvs' vs := by
  have hgb : ∀ k A t, W.heap[k]? = some (.cells A t (0, 0)) → t ≠ 22 → some k ≠ gv.ownBlock := fun k A t hk ht e => by
    obtain ⟨-, B, f, hB⟩ := owns_block h.gone k e.symm
    rw [hk] at hB
    injection hB with hB
    injection hB with _ hB _
    exact ht hB
  have hp : V.heap[p]? = some (.cells (shA s cv tv gv rv) 63 (0, 0)) := (ho p (heap_lt h.blk) (hgb p _ _ h.blk (by decide))).trans h.blk
  have hk1 : Kept M W V := fun k hk hS => ho k hk fun e => by
    obtain ⟨hlo, B, f, hB⟩ := owns_block h.gone k e.symm
    rcases hS with hS | ⟨A, f', hS⟩
    · have := h.ml
      omega
    · rw [hB] at hS
      injection hS with hS
      injection hS with _ hS _
      exact absurd hS (by decide)
  have hk2 : Kept M V (V.setCell ⟨p, 21, none⟩ gv') := Kept.store hp (by decide) (Nat.le_trans h.ml h.lo)
  have hof : ∀ {e : TypeId} {v : Value} {n : Nat} {xs : List Value}, e ≠ 63 → (∀ k, v.ownBlock = some k → some k ≠ gv.ownBlock) → W.ownsRow N e 1 v n xs → (V.setCell ⟨p, 21, none⟩ gv').ownsRow N e 1 v n xs := fun hte hn hw => by
    refine own_off (owns_kept hw fun g hg => ?_) hp (Ne.symm hte)
    obtain ⟨-, B, f', hB⟩ := owns_block hw g hg
    exact ho g (heap_lt hB) (hn g hg)
  have htb : s'.tabs = s.tabs := by rw [← hs']
  refine ⟨store_at hp ?_, h.lo, h.ml, h.cvs, ?_, own_off hw hp (by decide), hr.keep hk2, hof (by decide) (fun k hk e => h.two k hk e.symm) h.rws, (h.rin.keep hk1).keep hk2, fun k hk e => ?_⟩
  · rw [← hs']
    rfl
  · rw [htb]
    refine hof (by decide) (fun k hk e => ?_) h.tabs
    obtain ⟨-, B, f, hB⟩ := owns_block h.tabs k hk
    obtain ⟨-, A, f', hA⟩ := owns_block h.gone k e.symm
    rw [hA] at hB
    injection hB with hB
    injection hB with _ hB _
    exact absurd hB (by decide)
  · rcases hat with hat | ⟨q, hq, hlt⟩
    · rw [hat] at e
      exact h.two k hk e
    · rw [hq] at e
      obtain ⟨-, B, f, hB⟩ := owns_block h.rws k hk
      have := heap_lt hB
      have := Option.some.inj e
      omega
theorem ShA.keptG {W V : World} {M N p : Nat} {s : Scr} {rows : List (List C)} {cv tv gv rv : Value} {gvs vs : List Value} (h : ShA 63 W M N p s rows cv tv gv rv gvs vs) (ho : ∀ k, k < W.heap.size → some k ≠ gv.ownBlock → V.heap[k]? = W.heap[k]?) : Kept M W V := fun k hk hS => ho k hk fun e => by
  obtain ⟨hlo, B, f, hB⟩ := owns_block h.gone k e.symm
  rcases hS with hS | ⟨A, f', hS⟩
  · have := h.ml
    omega
  · rw [hB] at hS
    injection hS with hS
    injection hS with _ hS _
    exact absurd hS (by decide)
theorem ShA.framedG {W V : World} {M N p : Nat} {s : Scr} {rows : List (List C)} {cv tv gv rv gv' : Value} {gvs vs : List Value} (h : ShA 63 W M N p s rows cv tv gv rv gvs vs) (ho : ∀ k, k < W.heap.size → some k ≠ gv.ownBlock → V.heap[k]? = W.heap[k]?) (hp : V.heap[p]? = some (.cells (shA s cv tv gv rv) 63 (0, 0))) : Framed W (V.setCell ⟨p, 21, none⟩ gv') := fun k o hk hO => by
  refine Framed.store hp not_other_sheet k o ((ho k (heap_lt hk) fun e => ?_).trans hk) hO
  obtain ⟨-, B, f, hB⟩ := owns_block h.gone k e.symm
  rw [hk] at hB
  injection hB with hB
  exact not_other_rows (hO B _ _ hB)
theorem grown_below {W V : World} {N : Nat} {row : Option Nat} (h : W.grownBy V row) (hr : ∀ k, row = some k → N ≤ k) (hN : N ≤ W.heap.size) : Below N W V :=
  ⟨h.os, h.tape, h.output, h.size, fun k hk => h.block k (by omega) fun e => by have := hr k e.symm; omega⟩
set_option maxHeartbeats 4000000 in
set_option maxRecDepth 100000 in
theorem keep_any (W : World) (M N p : Nat) (s : Scr) (rows : List (List C)) (hS : ShAt 63 W M N p s rows) (v : Value) (row : List C) (hv : RowIn W M v row) (hgl : s.gone.length ≤ 50) :
    Calls Tryd.prog 55 #[.pointer (some ⟨p, 0, none⟩), v] W (Ran W M N p { s with gone := keepG s.gone row } rows) := by
  obtain ⟨cv, tv, gv, rv, gvs, vs, hS⟩ := hS
  obtain ⟨va, vc, rfl⟩ := hv.shape
  obtain ⟨ga, gc, rfl⟩ := own_slice hS.gone
  obtain ⟨i0, hi, hzz⟩ := Option.map_eq_some_iff.1 info_rows
  simp only [Prod.mk.injEq] at hzz
  obtain ⟨hz0, hz1, hz2⟩ := hzz
  have hlo := hS.lo
  have hNW : N ≤ W.heap.size := Nat.le_trans hlo (Nat.le_of_lt (heap_lt hS.blk))
  have c21 := (sh_cells hS.blk).2.1.2.2.2.2.2.2.2.2.2.2.1
  have k0 : Below W.heap.size W (W.alloc (.cells #[.slice va row.length vc] 22)) := (Below.refl _ _).alloc (Nat.le_refl _) _
  have hown : (W.alloc (.cells #[.slice va row.length vc] 22)).ownsRow N 22 1 (.slice ga s.gone.length gc) s.gone.length gvs := hS.gone.alloc _
  have HNW : Hid (∀ j u, [Value.slice va row.length vc][j]? = some u → (W.alloc (.cells #[.slice va row.length vc] 22)).cell? ((⟨W.heap.size, 0, none⟩ : Addr).add j) = some u) := cell_news W _ _
  have hal := heap_alloc_new W (.cells #[.slice va row.length vc] 22)
  have HS0 : Hid (ShA 63 (W.alloc (.cells #[.slice va row.length vc] 22)) M N p s rows cv tv (.slice ga s.gone.length gc) rv gvs vs) := hS.next k0
  have HRI : Hid (RowIn (W.alloc (.cells #[.slice va row.length vc] 22)) M (.slice va row.length vc) row) := hv.keep (Kept.of_below k0)
  have HK0 : Hid _ := k0
  have c21a := cell_stay k0 c21
  have hszW : (W.alloc (.cells #[.slice va row.length vc] 22)).heap.size = W.heap.size + 1 := by simp
  clear hS hv k0 hal
  go_enter Tryd.func55, Tryd.ntmps55
  go_upto_region 1 with (at_builtin; refine wpList_append_own_at _ rfl _ _ 30 rfl N 22 i0 (.slice none 0 0) 1 24 und_rows hi hz0 hz1 hz2 rfl (by decide) (.slice ga s.gone.length gc) s.gone.length gvs rfl hown ⟨W.heap.size, 0, none⟩ 1 1 [.slice va row.length vc] rfl rfl HNW.out (by intro u hu; simp at hu; rw [hu]; rfl) (by unfold maxLen; omega) (by omega) (by omega) ?_; intro gv' W2 hown' hgr hnil hat; obtain ⟨ga', gc', rfl⟩ := own_slice hown'; have hp2 := (hgr.block p (heap_lt HS0.out.blk) (fun e => (by obtain ⟨-, B, f, hB⟩ := owns_block HS0.out.gone p e.symm; rw [HS0.out.blk] at hB; injection hB with hB; injection hB with _ hB _; exact absurd hB (by decide)))).trans HS0.out.blk; have z21 := (sh_cells hp2).2.1.2.2.2.2.2.2.2.2.2.2.1; have f21 := (sh_cells hp2).2.2 21; clear hnil)
  have hho : ∀ k, k < (W.alloc (.cells #[.slice va row.length vc] 22)).heap.size → some k ≠ (Value.slice ga s.gone.length gc).ownBlock → W2.heap[k]? = (W.alloc (.cells #[.slice va row.length vc] 22)).heap[k]? := fun k hk hne => hgr.block k hk hne
  have hS2 : ShA 63 (W2.setCell ⟨p, 21, none⟩ (.slice ga' (s.gone.length + 1) gc')) M N p { s with gone := s.gone ++ [row] } rows cv tv (.slice ga' (s.gone.length + 1) gc') rv (gvs ++ [.slice va row.length vc]) vs :=
    HS0.out.goneNew (s' := { s with gone := s.gone ++ [row] }) rfl hho (by simpa using hown') ((HS0.out.gin.push _ _ HRI.out).keep (HS0.out.keptG hho)) (hat.imp id fun h => ⟨_, h, Nat.le_refl _⟩)
  have hB2 : Below N W (W2.setCell ⟨p, 21, none⟩ (.slice ga' (s.gone.length + 1) gc')) := ((HK0.out.mono hNW).trans (grown_below hgr (fun k e => (owns_block HS0.out.gone k e).1) (by omega))).setCell hlo _
  have hF2 : Framed W (W2.setCell ⟨p, 21, none⟩ (.slice ga' (s.gone.length + 1) gc')) := (Framed.of_below HK0.out).trans (HS0.out.framedG hho hp2)
  have HS2 : Hid _ := hS2
  have HB2 : Hid _ := hB2
  have HF2 : Hid (Framed W (W2.setCell ⟨p, 21, none⟩ (.slice ga' (s.gone.length + 1) gc'))) := hF2
  have d21 := (sh_cells hS2.blk).2.1.2.2.2.2.2.2.2.2.2.2.1
  clear hS2 hB2 hF2 hho hat hown' hgr hp2 z21 f21 HS0 HK0 HRI HNW hown c21 c21a hszW hi hz0 hz1 hz2
  generalize W2.setCell ⟨p, 21, none⟩ (.slice ga' (s.gone.length + 1) gc') = X at *
  by_cases hlt : s.gone.length < 50
  · have HE : Hid (keepG s.gone row = s.gone ++ [row]) := by unfold Hid keepG; rw [if_pos hlt]
    have hl1 : ¬ ((50 : Int) < (s.gone.length : Int) + 1) := by omega
    go_wp2_with fail
    go_end0
    refine ⟨rfl, ?_, HB2.out, HF2.out⟩
    rw [HE.out]
    exact ⟨_, _, _, _, _, _, HS2.out⟩
  · have HE : Hid (keepG s.gone row = (s.gone ++ [row]).eraseIdx 0) := by unfold Hid keepG; rw [if_neg hlt]
    have hl1 : (50 : Int) < (s.gone.length : Int) + 1 := by omega
    have hX := HS2.out
    have hgo := hX.gone
    have hlen : (s.gone ++ [row]).length = s.gone.length + 1 := by simp
    rw [hlen] at hgo
    obtain ⟨g, cap, hgv, hgN, -, -, -, -, A, hA⟩ := own_cells hgo (by omega)
    injection hgv with e1 _ e3
    subst e1 e3
    have HDel := delete_own N g (s.gone.length + 1) gc' 0 _ X hgo hX.gin.sls (by omega)
    have hpg : p ≠ g := by
      intro e
      rw [← e, hX.blk] at hA
      injection hA with hA
      injection hA with _ hA _
      exact absurd hA (by decide)
    have HEND : Hid (∀ V3 : World, V3.ownsRow N 22 1 (.slice (some ⟨g, 0, none⟩) (s.gone.length + 1 - 1) gc') (s.gone.length + 1 - 1) ((gvs ++ [Value.slice va row.length vc]).eraseIdx 0) → (∀ k, k ≠ g → V3.heap[k]? = X.heap[k]?) → Below g X V3 → V3.cell? ⟨p, 21, none⟩ = some (.slice (some ⟨g, 0, none⟩) (s.gone.length + 1) gc') ∧ V3.frozen? ⟨p, 21, none⟩ = false ∧ Hid (Ran W M N p { s with gone := keepG s.gone row } rows (.returned (.tuple #[])) (V3.setCell ⟨p, 21, none⟩ (.slice (some ⟨g, 0, none⟩) (s.gone.length + 1 - 1) gc')))) := fun V3 hO3 hk3 hb3 => by
      have hho : ∀ k, k < X.heap.size → some k ≠ (Value.slice (some ⟨g, 0, none⟩) (s.gone.length + 1) gc').ownBlock → V3.heap[k]? = X.heap[k]? := fun k _ hne => hk3 k fun e => hne (by rw [e]; rfl)
      have hp3 := (hk3 p hpg).trans hX.blk
      have hl2 : (keepG s.gone row).length = s.gone.length + 1 - 1 := by rw [HE.out, List.length_eraseIdx_of_lt (by omega), hlen]
      have hS3 := hX.goneNew (V := V3) (s' := { s with gone := keepG s.gone row }) (gv' := .slice (some ⟨g, 0, none⟩) (s.gone.length + 1 - 1) gc') (gvs' := (gvs ++ [Value.slice va row.length vc]).eraseIdx 0) rfl hho (by show V3.ownsRow N _ 1 _ (keepG s.gone row).length _; rw [hl2]; exact hO3) (by show RowsIn V3 M _ (keepG s.gone row); rw [HE.out]; exact (hX.gin.keep (hX.keptG hho)).erase 0 (by simp)) (.inl rfl)
      exact ⟨(sh_cells hp3).2.1.2.2.2.2.2.2.2.2.2.2.1, (sh_cells hp3).2.2 21, rfl, ⟨_, _, _, _, _, _, hS3⟩, (HB2.out.trans (hb3.mono hgN)).setCell hlo _, HF2.out.trans (hX.framedG hho hp3)⟩
    clear hX hgo hlen hA HS2 HB2 HF2 HE
    go_wp2_with fail
    refine HDel.mono ?_
    rintro e V3 ⟨rfl, hO3, hk3, hb3⟩
    obtain ⟨z21, f21, HR⟩ := HEND.out V3 hO3 hk3 hb3
    clear HEND HDel hO3 hk3 hb3
    go_wp2_with fail
    go_end0
    exact HR.out
set_option maxHeartbeats 1000000 in
theorem drop_any (W : World) (M N p n : Nat) (s : Scr) (rows : List (List C)) (hS : ShAt 63 W M N p s rows) (top bot : Nat) (hb : s.bot = bot) (hw : s.w = n) (hn1 : 1 ≤ n) (hn2 : n ≤ 120) (hg : top < rows.length) (hf : bot < rows.length) (hrl : rows.length ≤ 60) :
    Calls Tryd.prog 56 #[.pointer (some ⟨p, 0, none⟩), .int .i64 (top : Int)] W (Ran W M N p s (replR rows n s.sb top bot)) := by
  have H := replace_any W M N p n s rows hS top bot hw hn1 hn2 hg hf hrl
  obtain ⟨c0, c1, c3, c4, c5, c9, c10, c11, c19, f⟩ := hS.words
  rw [hb] at c10
  clear hS c0 c1 c3 c4 c5 c9 c11 c19 f
  go_enter Tryd.func56, Tryd.ntmps56
  go_wp2_with fail
  refine H.mono ?_
  rintro e V ⟨rfl, hS1, hB1, hF1⟩
  go_wp2_with fail
  go_end0
  exact ⟨rfl, hS1, hB1, hF1⟩
set_option maxHeartbeats 1000000 in
theorem down_any' (W : World) (M N p n : Nat) (s : Scr) (rows : List (List C)) (hS : ShAt 63 W M N p s rows) (top bot : Nat) (hb : s.bot = bot) (hw : s.w = n) (hn1 : 1 ≤ n) (hn2 : n ≤ 120) (hg : top < rows.length) (hf : bot < rows.length) (hrl : rows.length ≤ 60) :
    Calls Tryd.prog 32 #[.pointer (some ⟨p, 0, none⟩), .int .i64 (top : Int)] W (Ran W M N p s (replR rows n s.sb bot top)) := by
  have H := replace_any W M N p n s rows hS bot top hw hn1 hn2 hf hg hrl
  obtain ⟨c0, c1, c3, c4, c5, c9, c10, c11, c19, f⟩ := hS.words
  rw [hb] at c10
  clear hS c0 c1 c3 c4 c5 c9 c11 c19 f
  go_enter Tryd.func32, Tryd.ntmps32
  go_wp2_with fail
  refine H.mono ?_
  rintro e V ⟨rfl, hS1, hB1, hF1⟩
  go_wp2_with fail
  go_end0
  exact ⟨rfl, hS1, hB1, hF1⟩
/-- Rows move up, once. -/
def upS (s : Scr) (rows : List (List C)) (top : Nat) : Scr := if top = 0 then { s with gone := keepG s.gone (rows.getD 0 []) } else s
set_option maxHeartbeats 2000000 in
theorem up_any' (W : World) (M N p n : Nat) (s : Scr) (rows : List (List C)) (hS : ShAt 63 W M N p s rows) (top bot : Nat) (hb : s.bot = bot) (hw : s.w = n) (hn1 : 1 ≤ n) (hn2 : n ≤ 120) (hg : top < rows.length) (hf : bot < rows.length) (hrl : rows.length ≤ 60) (hgl : s.gone.length ≤ 50) :
    Calls Tryd.prog 30 #[.pointer (some ⟨p, 0, none⟩), .int .i64 (top : Int)] W (Ran W M N p (upS s rows top) (replR rows n s.sb top bot)) := by
  by_cases h0 : top = 0
  · subst h0
    have HU : Hid (upS s rows 0 = { s with gone := keepG s.gone (rows.getD 0 []) }) := rfl
    obtain ⟨cv, tv, gv, rv, gvs, vs, hA⟩ := hS
    obtain ⟨rb, rc, hrv, hrb, hrc1, hrc2, hvl, hrcell, A, hrA⟩ := own_cells hA.rws (by omega)
    subst hrv
    have c22 := (sh_cells hA.blk).2.1.2.2.2.2.2.2.2.2.2.2.2
    have d0 := hrcell 0 (by omega)
    have hri := hA.rin.2 0 (by omega)
    obtain ⟨va, vc, hsh⟩ := hri.shape
    rw [hsh] at d0 hri
    have HK := keep_any W M N p s rows ⟨_, _, _, _, _, _, hA⟩ _ _ hri hgl
    have HDR : Hid (∀ V, ShAt 63 V M N p { s with gone := keepG s.gone (rows.getD 0 []) } rows → Calls Tryd.prog 56 #[.pointer (some ⟨p, 0, none⟩), .int .i64 ((0 : Nat) : Int)] V (Ran V M N p { s with gone := keepG s.gone (rows.getD 0 []) } (replR rows n s.sb 0 bot))) := fun V h => drop_any V M N p n _ rows h 0 bot hb hw hn1 hn2 hg hf hrl
    have hl0 : (0 : Int) < (rows.length : Int) := by omega
    clear hA hrA hrcell hvl hsh hri
    generalize rows.getD 0 [] = row at *
    generalize replR rows n s.sb 0 bot = rows' at *
    go_enter Tryd.func30, Tryd.ntmps30
    go_wp2_with fail
    refine HK.mono ?_
    rintro e V ⟨rfl, hS1, hB1, hF1⟩
    have HD2 := HDR.out V hS1
    clear HK HDR c22 d0
    go_wp2_with fail
    refine HD2.mono ?_
    rintro e V2 ⟨rfl, hS2, hB2, hF2⟩
    go_wp2_with fail
    go_end0
    rw [HU.out]
    exact ⟨rfl, hS2, hB1.trans hB2, hF1.trans hF2⟩
  · have HU : Hid (upS s rows top = s) := by unfold Hid upS; rw [if_neg h0]
    have HD2 := drop_any W M N p n s rows hS top bot hb hw hn1 hn2 hg hf hrl
    have hz : ((top : Int) == 0) = false := by simp only [beq_eq_false_iff_ne, ne_eq]; omega
    clear hS
    go_enter Tryd.func30, Tryd.ntmps30
    go_wp2_with fail
    refine HD2.mono ?_
    rintro e V2 ⟨rfl, hS2, hB2, hF2⟩
    go_wp2_with fail
    go_end0
    rw [HU.out]
    exact ⟨rfl, hS2, hB2, hF2⟩
end Put
end Go.Proofs.YthokeflechajlaaDoor

/- shift.change: a screen is checked, and changed. -/
namespace Go.Proofs.YthokeflechajlaaDoor
open Go.ChangeShapes Go.WideShapes Go.ChangeAt Go.RowKit
namespace Put
open Grd (C SliceAt CellsAt gridErr z0 nilV flat rowsL)
theorem kf_ofs {w V : World} {s : Scr} {cv tv gv : Value} {A : Array Value} {t t' : TypeId} (hb : Below w.heap.size w V) (h0 : V.heap[w.heap.size]? = some (.cells (scrA s cv tv gv) t (0, 0))) (h1 : V.heap[w.heap.size + 1]? = some (.cells A t' (0, 0))) {s' : Scr} {cv' tv' gv' : Value} :
    Below w.heap.size w (V.setRow (w.heap.size + 1) (scrA s' cv' tv' gv')) ∧ ScrPtr (V.setRow (w.heap.size + 1) (scrA s' cv' tv' gv')) (.pointer (some ⟨w.heap.size, 0, none⟩)) ∧ blkAt (V.setRow (w.heap.size + 1) (scrA s' cv' tv' gv')) (.pointer (some ⟨w.heap.size, 0, none⟩)) = scrA s cv tv gv ∧ ScrPtr0 (V.setRow (w.heap.size + 1) (scrA s' cv' tv' gv')) (.pointer (some ⟨w.heap.size + 1, 0, none⟩)) := by
  have h2 : (V.setRow (w.heap.size + 1) (scrA s' cv' tv' gv')).heap[w.heap.size]? = _ := (setRow_other _ _ _ _ (by omega)).trans h0
  have h3 := setRow_heap V (w.heap.size + 1) A (scrA s' cv' tv' gv') t' _ h1
  exact ⟨below_setRow hb (by omega) _, (scrPtr_of h2).1, (scrPtr_of h2).2, scrPtr0_of h3 rfl⟩
section
attribute [local go_sem ↓] load_scr store_scr
attribute [local go_sem] isScrS ptrBlk_at aggOf_agg
set_option maxHeartbeats 4000000 in
set_option maxRecDepth 100000 in
theorem schange_any (s s' : Scr) (cv tv gv : Value) (df : FuncId) (caps : Array Value) (w0 w : World) (hT : Txt.Tab w) (hV : ScrV w0 s cv tv gv) (hb0 : Below w0.heap.size w0 w) (hF : Fits s)
    (hCH : ∀ W, Below w.heap.size w W → Calls Tryd.prog 37 #[.agg (scrA s cv tv gv), .int .i64 (scrErr s), .func (.func df) #[] caps] W (Made w0 W s' (scrErr s))) :
    Calls Tryd.prog 27 #[.agg (scrA s cv tv gv), .func (.func df) #[] caps] w (Made w0 w s' (scrErr s)) := by
  obtain ⟨ca, cc, rfl⟩ := hV.c.shape
  obtain ⟨ta, tc, rfl⟩ := hV.t.slice
  obtain ⟨ga, gc, rfl⟩ := hV.g.slice
  have hx0 : ((w.alloc (.cells (scrA s (.slice ca s.cs.length cc) (.slice ta s.tabs.length tc) (.slice ga s.gone.length gc)) 32)).alloc (.cells #[.int .i64 0, .int .i64 0, .slice none 0 0, .int .i64 0, .int .i64 0, .bool false, .int .i64 0, .int .i64 0, .int .i64 0, .int .i64 0, .int .i64 0, .int .i64 0, .slice none 0 0, .int .i64 0, .int .i64 0, .int .i64 0, .int .i64 0, .int .i64 0, .int .i64 0, .int .i32 0, .string ⟨#[]⟩, .slice none 0 0] 32)).heap[w.heap.size]? = some (.cells (scrA s (.slice ca s.cs.length cc) (.slice ta s.tabs.length tc) (.slice ga s.gone.length gc)) 32 (0, 0)) := (Below.heap_alloc _ _ _ (by simp)).trans (heap_alloc_new _ _)
  have hx1 : ((w.alloc (.cells (scrA s (.slice ca s.cs.length cc) (.slice ta s.tabs.length tc) (.slice ga s.gone.length gc)) 32)).alloc (.cells #[.int .i64 0, .int .i64 0, .slice none 0 0, .int .i64 0, .int .i64 0, .bool false, .int .i64 0, .int .i64 0, .int .i64 0, .int .i64 0, .int .i64 0, .int .i64 0, .slice none 0 0, .int .i64 0, .int .i64 0, .int .i64 0, .int .i64 0, .int .i64 0, .int .i64 0, .int .i32 0, .string ⟨#[]⟩, .slice none 0 0] 32)).heap[w.heap.size + 1]? = some (.cells #[.int .i64 0, .int .i64 0, .slice none 0 0, .int .i64 0, .int .i64 0, .bool false, .int .i64 0, .int .i64 0, .int .i64 0, .int .i64 0, .int .i64 0, .int .i64 0, .slice none 0 0, .int .i64 0, .int .i64 0, .int .i64 0, .int .i64 0, .int .i64 0, .int .i64 0, .int .i32 0, .string ⟨#[]⟩, .slice none 0 0] 32 (0, 0)) := heap_alloc2_new w _ _
  have hkb : Below w.heap.size w ((w.alloc (.cells (scrA s (.slice ca s.cs.length cc) (.slice ta s.tabs.length tc) (.slice ga s.gone.length gc)) 32)).alloc (.cells #[.int .i64 0, .int .i64 0, .slice none 0 0, .int .i64 0, .int .i64 0, .bool false, .int .i64 0, .int .i64 0, .int .i64 0, .int .i64 0, .int .i64 0, .int .i64 0, .slice none 0 0, .int .i64 0, .int .i64 0, .int .i64 0, .int .i64 0, .int .i64 0, .int .i64 0, .int .i32 0, .string ⟨#[]⟩, .slice none 0 0] 32)) := ((Below.refl _ _).alloc (Nat.le_refl _) _).alloc (by simp) _
  have hsz : ((w.alloc (.cells (scrA s (.slice ca s.cs.length cc) (.slice ta s.tabs.length tc) (.slice ga s.gone.length gc)) 32)).alloc (.cells #[.int .i64 0, .int .i64 0, .slice none 0 0, .int .i64 0, .int .i64 0, .bool false, .int .i64 0, .int .i64 0, .int .i64 0, .int .i64 0, .int .i64 0, .int .i64 0, .slice none 0 0, .int .i64 0, .int .i64 0, .int .i64 0, .int .i64 0, .int .i64 0, .int .i64 0, .int .i32 0, .string ⟨#[]⟩, .slice none 0 0] 32)).heap.size = w.heap.size + 2 := by simp
  have HX0 : Hid _ := hx0
  have HX1 : Hid _ := hx1
  have HKB : Hid _ := hkb
  have HSZ : Hid _ := hsz
  have HCK : Hid (∀ W, Below w.heap.size w W → Calls Tryd.prog 7 #[.agg (scrA s (.slice ca s.cs.length cc) (.slice ta s.tabs.length tc) (.slice ga s.gone.length gc))] W fun e w' => e = .returned (.int .i64 (scrErr s)) ∧ Below W.heap.size W w') := fun W hW => putCheck_any s _ _ _ W (Grd.Tab.next hT hW) (hV.next (hb0.trans (hW.mono hb0.size))) hF
  have HCH : Hid (∀ W, Below w.heap.size w W → Calls Tryd.prog 37 #[.agg (scrA s (.slice ca s.cs.length cc) (.slice ta s.tabs.length tc) (.slice ga s.gone.length gc)), .int .i64 (scrErr s), .func (.func df) #[] caps] W (Made w0 W s' (scrErr s))) := hCH
  have hM := hb0.size
  clear hx0 hx1 hkb hV hF hT hCH hb0 hsz
  generalize scrErr s = er at *
  go_enter Tryd.func27, Tryd.ntmps27
  go_upto_region 1 with fail
  generalize ((w.alloc (.cells (scrA s (.slice ca s.cs.length cc) (.slice ta s.tabs.length tc) (.slice ga s.gone.length gc)) 32)).alloc (.cells #[.int .i64 0, .int .i64 0, .slice none 0 0, .int .i64 0, .int .i64 0, .bool false, .int .i64 0, .int .i64 0, .int .i64 0, .int .i64 0, .int .i64 0, .int .i64 0, .slice none 0 0, .int .i64 0, .int .i64 0, .int .i64 0, .int .i64 0, .int .i64 0, .int .i64 0, .int .i32 0, .string ⟨#[]⟩, .slice none 0 0] 32)) = X at *
  have SK : Hid (∀ w', Below X.heap.size X w' → Below w.heap.size w w' ∧ ScrPtr w' (.pointer (some ⟨w.heap.size, 0, none⟩)) ∧ blkAt w' (.pointer (some ⟨w.heap.size, 0, none⟩)) = (scrA s (.slice ca s.cs.length cc) (.slice ta s.tabs.length tc) (.slice ga s.gone.length gc)) ∧ ScrPtr0 w' (.pointer (some ⟨w.heap.size + 1, 0, none⟩))) := fun w' hb => by
    have h0 := Grd.carry HX0.out hb
    exact ⟨HKB.out.trans (hb.mono HKB.out.size), (scrPtr_of h0).1, (scrPtr_of h0).2, scrPtr0_of (Grd.carry HX1.out hb) rfl⟩
  have b0 : Below X.heap.size X X.drew := (Below.refl _ _).drew
  go_region_held3 (fun w' => Below w.heap.size w w' ∧ ScrPtr w' (.pointer (some ⟨w.heap.size, 0, none⟩)) ∧ blkAt w' (.pointer (some ⟨w.heap.size, 0, none⟩)) = (scrA s (.slice ca s.cs.length cc) (.slice ta s.tabs.length tc) (.slice ga s.gone.length gc)) ∧ ScrPtr0 w' (.pointer (some ⟨w.heap.size + 1, 0, none⟩)))
    (first | exact KF.out | exact SK.out _ b2 | exact SK.out _ b1 | exact SK.out _ b0)
    (first | (go_at_call 7; refine (HCK.out _ (SK.out _ b0).1).mono ?_; rintro e V1 ⟨rfl, c1⟩; have b1 := b0.trans (c1.mono b0.size); clear c1) | (go_at_call 37; refine (HCH.out _ (SK.out _ b1).1).mono ?_; rintro e V2 ⟨cv', tv', gv', rfl, hO, c2⟩; have b2 := b1.trans (c2.mono b1.size); obtain ⟨a1, n1, c1, a2, n2, c2', a3, n3, c3, rfl, rfl, rfl⟩ := hO.shapes; have HO : Hid (ScrO V2 w0.heap.size _ s' _ _ _) := hO; clear c2 hO; have HR : Hid (V2.heap[w.heap.size + 1]? = _) := Grd.carry HX1.out b2; have KF : Hid (Below w.heap.size w (V2.setRow (w.heap.size + 1) (scrA s' (.slice a1 n1 c1) (.slice a2 n2 c2') (.slice a3 n3 c3))) ∧ ScrPtr (V2.setRow (w.heap.size + 1) (scrA s' (.slice a1 n1 c1) (.slice a2 n2 c2') (.slice a3 n3 c3))) (.pointer (some ⟨w.heap.size, 0, none⟩)) ∧ blkAt (V2.setRow (w.heap.size + 1) (scrA s' (.slice a1 n1 c1) (.slice a2 n2 c2') (.slice a3 n3 c3))) (.pointer (some ⟨w.heap.size, 0, none⟩)) = (scrA s (.slice ca s.cs.length cc) (.slice ta s.tabs.length tc) (.slice ga s.gone.length gc)) ∧ ScrPtr0 (V2.setRow (w.heap.size + 1) (scrA s' (.slice a1 n1 c1) (.slice a2 n2 c2') (.slice a3 n3 c3))) (.pointer (some ⟨w.heap.size + 1, 0, none⟩))) := kf_ofs (SK.out _ b2).1 (Grd.carry HX0.out b2) HR.out))
  go_wp2_with fail
  (try simp only [Exit.inBlock, Exit.then])
  refine bodyPost_ret (v := .tuple #[.agg (scrA s' (.slice a1 n1 c1) (.slice a2 n2 c2') (.slice a3 n3 c3)), .int .i64 er]) ?_ rfl ⟨_, _, _, rfl, ?_, KF.out.1⟩
  · exact Grd.results_row_tmp rfl _ _ (w.heap.size + 1) _ _ _ _ rfl (setRow_heap _ _ _ _ _ _ HR.out) Tryd.underlying32 rfl (by kernel_rfl) _ rfl
  · exact (ScrO.off HO.out HR.out screen_is (by omega) fun k hk => setRow_other _ _ _ _ hk).mono (SK.out _ b1).1.size
end
end Put
end Go.Proofs.YthokeflechajlaaDoor

/- Package shift: the calls that hand a closure on. (Written by gen_call.py.) -/
namespace Go.Proofs.YthokeflechajlaaDoor
open Go.ChangeShapes Go.WideShapes Go.ChangeAt Go.RowKit
namespace Put
open Grd (C)
theorem cell_ones {W : World} {R : Nat} {v : Value} {t : TypeId} (h : W.heap[R]? = some (.cells #[v] t (0, 0))) : W.cell? ⟨R, 0, none⟩ = some v := by simp [World.cell?, h]
set_option maxHeartbeats 2000000 in
set_option maxRecDepth 100000 in
theorem shiftUp_calls (s s' : Scr) (cv tv gv : Value) (n : Int) (er : Int) (w0 w : World) (hV : ScrV w0 s cv tv gv) (hM : w0.heap.size ≤ w.heap.size)
    (hC : ∀ (W : World) (B1 : Nat), Below w.heap.size w W → W.cell? ⟨B1, 0, none⟩ = some (.int .i64 n) → Calls Tryd.prog 27 #[.agg (scrA s cv tv gv), .func (.func 28) #[] #[.pointer (some ⟨B1, 0, none⟩)]] W (Made w0 W s' er)) :
    Calls Tryd.prog 8 #[.agg (scrA s cv tv gv), .int .i64 n] w (Made w0 w s' er) := by
  obtain ⟨ca, cc, rfl⟩ := hV.c.shape
  obtain ⟨ta, tc, rfl⟩ := hV.t.slice
  obtain ⟨ga, gc, rfl⟩ := hV.g.slice
  have hkb : Below w.heap.size w (((w.alloc (.cells (scrA s (.slice ca s.cs.length cc) (.slice ta s.tabs.length tc) (.slice ga s.gone.length gc)) 32)).alloc (.cells #[.int .i64 n] 3)).alloc (.cells #[.int .i64 0, .int .i64 0, .slice none 0 0, .int .i64 0, .int .i64 0, .bool false, .int .i64 0, .int .i64 0, .int .i64 0, .int .i64 0, .int .i64 0, .int .i64 0, .slice none 0 0, .int .i64 0, .int .i64 0, .int .i64 0, .int .i64 0, .int .i64 0, .int .i64 0, .int .i32 0, .string ⟨#[]⟩, .slice none 0 0] 32)) := ((((Below.refl _ _).alloc (by simp) _).alloc (by simp) _).alloc (by simp; omega) _)
  have hx0 : (w.alloc (.cells (scrA s (.slice ca s.cs.length cc) (.slice ta s.tabs.length tc) (.slice ga s.gone.length gc)) 32)).heap[w.heap.size]? = some (.cells (scrA s (.slice ca s.cs.length cc) (.slice ta s.tabs.length tc) (.slice ga s.gone.length gc)) 32 (0, 0)) := by
    have h := heap_alloc_new w (.cells (scrA s (.slice ca s.cs.length cc) (.slice ta s.tabs.length tc) (.slice ga s.gone.length gc)) 32)
    have e : w.heap.size = w.heap.size := by simp
    rw [e] at h
    exact h
  have hx0 := (Below.heap_alloc (w.alloc (.cells (scrA s (.slice ca s.cs.length cc) (.slice ta s.tabs.length tc) (.slice ga s.gone.length gc)) 32)) (.cells #[.int .i64 n] 3) _ (heap_lt hx0)).trans hx0
  have hx0 := (Below.heap_alloc ((w.alloc (.cells (scrA s (.slice ca s.cs.length cc) (.slice ta s.tabs.length tc) (.slice ga s.gone.length gc)) 32)).alloc (.cells #[.int .i64 n] 3)) (.cells #[.int .i64 0, .int .i64 0, .slice none 0 0, .int .i64 0, .int .i64 0, .bool false, .int .i64 0, .int .i64 0, .int .i64 0, .int .i64 0, .int .i64 0, .int .i64 0, .slice none 0 0, .int .i64 0, .int .i64 0, .int .i64 0, .int .i64 0, .int .i64 0, .int .i64 0, .int .i32 0, .string ⟨#[]⟩, .slice none 0 0] 32) _ (heap_lt hx0)).trans hx0
  have hx1 : ((w.alloc (.cells (scrA s (.slice ca s.cs.length cc) (.slice ta s.tabs.length tc) (.slice ga s.gone.length gc)) 32)).alloc (.cells #[.int .i64 n] 3)).heap[w.heap.size + 1]? = some (.cells #[.int .i64 n] 3 (0, 0)) := by
    have h := heap_alloc_new (w.alloc (.cells (scrA s (.slice ca s.cs.length cc) (.slice ta s.tabs.length tc) (.slice ga s.gone.length gc)) 32)) (.cells #[.int .i64 n] 3)
    have e : (w.alloc (.cells (scrA s (.slice ca s.cs.length cc) (.slice ta s.tabs.length tc) (.slice ga s.gone.length gc)) 32)).heap.size = w.heap.size + 1 := by simp
    rw [e] at h
    exact h
  have hx1 := (Below.heap_alloc ((w.alloc (.cells (scrA s (.slice ca s.cs.length cc) (.slice ta s.tabs.length tc) (.slice ga s.gone.length gc)) 32)).alloc (.cells #[.int .i64 n] 3)) (.cells #[.int .i64 0, .int .i64 0, .slice none 0 0, .int .i64 0, .int .i64 0, .bool false, .int .i64 0, .int .i64 0, .int .i64 0, .int .i64 0, .int .i64 0, .int .i64 0, .slice none 0 0, .int .i64 0, .int .i64 0, .int .i64 0, .int .i64 0, .int .i64 0, .int .i64 0, .int .i32 0, .string ⟨#[]⟩, .slice none 0 0] 32) _ (heap_lt hx1)).trans hx1
  have hx2 : (((w.alloc (.cells (scrA s (.slice ca s.cs.length cc) (.slice ta s.tabs.length tc) (.slice ga s.gone.length gc)) 32)).alloc (.cells #[.int .i64 n] 3)).alloc (.cells #[.int .i64 0, .int .i64 0, .slice none 0 0, .int .i64 0, .int .i64 0, .bool false, .int .i64 0, .int .i64 0, .int .i64 0, .int .i64 0, .int .i64 0, .int .i64 0, .slice none 0 0, .int .i64 0, .int .i64 0, .int .i64 0, .int .i64 0, .int .i64 0, .int .i64 0, .int .i32 0, .string ⟨#[]⟩, .slice none 0 0] 32)).heap[w.heap.size + 2]? = some (.cells #[.int .i64 0, .int .i64 0, .slice none 0 0, .int .i64 0, .int .i64 0, .bool false, .int .i64 0, .int .i64 0, .int .i64 0, .int .i64 0, .int .i64 0, .int .i64 0, .slice none 0 0, .int .i64 0, .int .i64 0, .int .i64 0, .int .i64 0, .int .i64 0, .int .i64 0, .int .i32 0, .string ⟨#[]⟩, .slice none 0 0] 32 (0, 0)) := by
    have h := heap_alloc_new ((w.alloc (.cells (scrA s (.slice ca s.cs.length cc) (.slice ta s.tabs.length tc) (.slice ga s.gone.length gc)) 32)).alloc (.cells #[.int .i64 n] 3)) (.cells #[.int .i64 0, .int .i64 0, .slice none 0 0, .int .i64 0, .int .i64 0, .bool false, .int .i64 0, .int .i64 0, .int .i64 0, .int .i64 0, .int .i64 0, .int .i64 0, .slice none 0 0, .int .i64 0, .int .i64 0, .int .i64 0, .int .i64 0, .int .i64 0, .int .i64 0, .int .i32 0, .string ⟨#[]⟩, .slice none 0 0] 32)
    have e : ((w.alloc (.cells (scrA s (.slice ca s.cs.length cc) (.slice ta s.tabs.length tc) (.slice ga s.gone.length gc)) 32)).alloc (.cells #[.int .i64 n] 3)).heap.size = w.heap.size + 2 := by simp
    rw [e] at h
    exact h
  have HX0 : Hid _ := hx0
  have HXR : Hid _ := hx2
  have HKB : Hid _ := hkb
  have HC := hC _ (w.heap.size + 1) hkb (cell_ones hx1)
  have hsz : w.heap.size ≤ (((w.alloc (.cells (scrA s (.slice ca s.cs.length cc) (.slice ta s.tabs.length tc) (.slice ga s.gone.length gc)) 32)).alloc (.cells #[.int .i64 n] 3)).alloc (.cells #[.int .i64 0, .int .i64 0, .slice none 0 0, .int .i64 0, .int .i64 0, .bool false, .int .i64 0, .int .i64 0, .int .i64 0, .int .i64 0, .int .i64 0, .int .i64 0, .slice none 0 0, .int .i64 0, .int .i64 0, .int .i64 0, .int .i64 0, .int .i64 0, .int .i64 0, .int .i32 0, .string ⟨#[]⟩, .slice none 0 0] 32)).heap.size := hkb.size
  clear hkb hV hC hx0 hx1 hx2
  go_enter Tryd.func8, Tryd.ntmps8
  go_upto_region 1 with fail
  generalize (((w.alloc (.cells (scrA s (.slice ca s.cs.length cc) (.slice ta s.tabs.length tc) (.slice ga s.gone.length gc)) 32)).alloc (.cells #[.int .i64 n] 3)).alloc (.cells #[.int .i64 0, .int .i64 0, .slice none 0 0, .int .i64 0, .int .i64 0, .bool false, .int .i64 0, .int .i64 0, .int .i64 0, .int .i64 0, .int .i64 0, .int .i64 0, .slice none 0 0, .int .i64 0, .int .i64 0, .int .i64 0, .int .i64 0, .int .i64 0, .int .i64 0, .int .i32 0, .string ⟨#[]⟩, .slice none 0 0] 32)) = X at *
  go_wp2_with (refine wpList_load_row rfl 32 (.tmp 2) rfl w.heap.size rfl _ _ _ _ HX0.out Tryd.underlying32 rfl (by kernel_rfl) ?_)
  refine HC.mono ?_
  rintro e V ⟨cv', tv', gv', rfl, hO, c2⟩
  obtain ⟨a1, n1, c1, a2, n2, c2', a3, n3, c3, rfl, rfl, rfl⟩ := hO.shapes
  have HO : Hid (ScrO V w0.heap.size _ s' _ _ _) := hO
  have HR : Hid (V.heap[w.heap.size + 2]? = _) := Grd.carry HXR.out c2
  have HB : Hid (Below w.heap.size w V) := HKB.out.trans (c2.mono HKB.out.size)
  clear hO c2 HC
  go_wp2_with (refine wpList_store_row rfl 32 (.tmp 4) (.tmp 9) rfl (w.heap.size + 2) (scrA s' (.slice a1 n1 c1) (.slice a2 n2 c2') (.slice a3 n3 c3)) rfl rfl _ _ HR.out (by kernel_rfl) rfl (scr_one _ _ _ _ _ _ _ _ _ _) ?_)
  (try simp only [Exit.inBlock, Exit.then])
  refine bodyPost_ret (v := .tuple #[.agg (scrA s' (.slice a1 n1 c1) (.slice a2 n2 c2') (.slice a3 n3 c3)), .int .i64 er]) ?_ rfl ⟨_, _, _, rfl, ?_, below_setRow HB.out (by omega) _⟩
  · exact Grd.results_row_tmp rfl _ _ (w.heap.size + 2) _ _ _ _ rfl (setRow_heap _ _ _ _ _ _ HR.out) Tryd.underlying32 rfl (by kernel_rfl) _ rfl
  · exact (ScrO.off HO.out HR.out screen_is (by omega) fun k hk => setRow_other _ _ _ _ hk).mono hsz
set_option maxHeartbeats 2000000 in
set_option maxRecDepth 100000 in
theorem shiftDown_calls (s s' : Scr) (cv tv gv : Value) (n : Int) (er : Int) (w0 w : World) (hV : ScrV w0 s cv tv gv) (hM : w0.heap.size ≤ w.heap.size)
    (hC : ∀ (W : World) (B1 : Nat), Below w.heap.size w W → W.cell? ⟨B1, 0, none⟩ = some (.int .i64 n) → Calls Tryd.prog 27 #[.agg (scrA s cv tv gv), .func (.func 31) #[] #[.pointer (some ⟨B1, 0, none⟩)]] W (Made w0 W s' er)) :
    Calls Tryd.prog 9 #[.agg (scrA s cv tv gv), .int .i64 n] w (Made w0 w s' er) := by
  obtain ⟨ca, cc, rfl⟩ := hV.c.shape
  obtain ⟨ta, tc, rfl⟩ := hV.t.slice
  obtain ⟨ga, gc, rfl⟩ := hV.g.slice
  have hkb : Below w.heap.size w (((w.alloc (.cells (scrA s (.slice ca s.cs.length cc) (.slice ta s.tabs.length tc) (.slice ga s.gone.length gc)) 32)).alloc (.cells #[.int .i64 n] 3)).alloc (.cells #[.int .i64 0, .int .i64 0, .slice none 0 0, .int .i64 0, .int .i64 0, .bool false, .int .i64 0, .int .i64 0, .int .i64 0, .int .i64 0, .int .i64 0, .int .i64 0, .slice none 0 0, .int .i64 0, .int .i64 0, .int .i64 0, .int .i64 0, .int .i64 0, .int .i64 0, .int .i32 0, .string ⟨#[]⟩, .slice none 0 0] 32)) := ((((Below.refl _ _).alloc (by simp) _).alloc (by simp) _).alloc (by simp; omega) _)
  have hx0 : (w.alloc (.cells (scrA s (.slice ca s.cs.length cc) (.slice ta s.tabs.length tc) (.slice ga s.gone.length gc)) 32)).heap[w.heap.size]? = some (.cells (scrA s (.slice ca s.cs.length cc) (.slice ta s.tabs.length tc) (.slice ga s.gone.length gc)) 32 (0, 0)) := by
    have h := heap_alloc_new w (.cells (scrA s (.slice ca s.cs.length cc) (.slice ta s.tabs.length tc) (.slice ga s.gone.length gc)) 32)
    have e : w.heap.size = w.heap.size := by simp
    rw [e] at h
    exact h
  have hx0 := (Below.heap_alloc (w.alloc (.cells (scrA s (.slice ca s.cs.length cc) (.slice ta s.tabs.length tc) (.slice ga s.gone.length gc)) 32)) (.cells #[.int .i64 n] 3) _ (heap_lt hx0)).trans hx0
  have hx0 := (Below.heap_alloc ((w.alloc (.cells (scrA s (.slice ca s.cs.length cc) (.slice ta s.tabs.length tc) (.slice ga s.gone.length gc)) 32)).alloc (.cells #[.int .i64 n] 3)) (.cells #[.int .i64 0, .int .i64 0, .slice none 0 0, .int .i64 0, .int .i64 0, .bool false, .int .i64 0, .int .i64 0, .int .i64 0, .int .i64 0, .int .i64 0, .int .i64 0, .slice none 0 0, .int .i64 0, .int .i64 0, .int .i64 0, .int .i64 0, .int .i64 0, .int .i64 0, .int .i32 0, .string ⟨#[]⟩, .slice none 0 0] 32) _ (heap_lt hx0)).trans hx0
  have hx1 : ((w.alloc (.cells (scrA s (.slice ca s.cs.length cc) (.slice ta s.tabs.length tc) (.slice ga s.gone.length gc)) 32)).alloc (.cells #[.int .i64 n] 3)).heap[w.heap.size + 1]? = some (.cells #[.int .i64 n] 3 (0, 0)) := by
    have h := heap_alloc_new (w.alloc (.cells (scrA s (.slice ca s.cs.length cc) (.slice ta s.tabs.length tc) (.slice ga s.gone.length gc)) 32)) (.cells #[.int .i64 n] 3)
    have e : (w.alloc (.cells (scrA s (.slice ca s.cs.length cc) (.slice ta s.tabs.length tc) (.slice ga s.gone.length gc)) 32)).heap.size = w.heap.size + 1 := by simp
    rw [e] at h
    exact h
  have hx1 := (Below.heap_alloc ((w.alloc (.cells (scrA s (.slice ca s.cs.length cc) (.slice ta s.tabs.length tc) (.slice ga s.gone.length gc)) 32)).alloc (.cells #[.int .i64 n] 3)) (.cells #[.int .i64 0, .int .i64 0, .slice none 0 0, .int .i64 0, .int .i64 0, .bool false, .int .i64 0, .int .i64 0, .int .i64 0, .int .i64 0, .int .i64 0, .int .i64 0, .slice none 0 0, .int .i64 0, .int .i64 0, .int .i64 0, .int .i64 0, .int .i64 0, .int .i64 0, .int .i32 0, .string ⟨#[]⟩, .slice none 0 0] 32) _ (heap_lt hx1)).trans hx1
  have hx2 : (((w.alloc (.cells (scrA s (.slice ca s.cs.length cc) (.slice ta s.tabs.length tc) (.slice ga s.gone.length gc)) 32)).alloc (.cells #[.int .i64 n] 3)).alloc (.cells #[.int .i64 0, .int .i64 0, .slice none 0 0, .int .i64 0, .int .i64 0, .bool false, .int .i64 0, .int .i64 0, .int .i64 0, .int .i64 0, .int .i64 0, .int .i64 0, .slice none 0 0, .int .i64 0, .int .i64 0, .int .i64 0, .int .i64 0, .int .i64 0, .int .i64 0, .int .i32 0, .string ⟨#[]⟩, .slice none 0 0] 32)).heap[w.heap.size + 2]? = some (.cells #[.int .i64 0, .int .i64 0, .slice none 0 0, .int .i64 0, .int .i64 0, .bool false, .int .i64 0, .int .i64 0, .int .i64 0, .int .i64 0, .int .i64 0, .int .i64 0, .slice none 0 0, .int .i64 0, .int .i64 0, .int .i64 0, .int .i64 0, .int .i64 0, .int .i64 0, .int .i32 0, .string ⟨#[]⟩, .slice none 0 0] 32 (0, 0)) := by
    have h := heap_alloc_new ((w.alloc (.cells (scrA s (.slice ca s.cs.length cc) (.slice ta s.tabs.length tc) (.slice ga s.gone.length gc)) 32)).alloc (.cells #[.int .i64 n] 3)) (.cells #[.int .i64 0, .int .i64 0, .slice none 0 0, .int .i64 0, .int .i64 0, .bool false, .int .i64 0, .int .i64 0, .int .i64 0, .int .i64 0, .int .i64 0, .int .i64 0, .slice none 0 0, .int .i64 0, .int .i64 0, .int .i64 0, .int .i64 0, .int .i64 0, .int .i64 0, .int .i32 0, .string ⟨#[]⟩, .slice none 0 0] 32)
    have e : ((w.alloc (.cells (scrA s (.slice ca s.cs.length cc) (.slice ta s.tabs.length tc) (.slice ga s.gone.length gc)) 32)).alloc (.cells #[.int .i64 n] 3)).heap.size = w.heap.size + 2 := by simp
    rw [e] at h
    exact h
  have HX0 : Hid _ := hx0
  have HXR : Hid _ := hx2
  have HKB : Hid _ := hkb
  have HC := hC _ (w.heap.size + 1) hkb (cell_ones hx1)
  have hsz : w.heap.size ≤ (((w.alloc (.cells (scrA s (.slice ca s.cs.length cc) (.slice ta s.tabs.length tc) (.slice ga s.gone.length gc)) 32)).alloc (.cells #[.int .i64 n] 3)).alloc (.cells #[.int .i64 0, .int .i64 0, .slice none 0 0, .int .i64 0, .int .i64 0, .bool false, .int .i64 0, .int .i64 0, .int .i64 0, .int .i64 0, .int .i64 0, .int .i64 0, .slice none 0 0, .int .i64 0, .int .i64 0, .int .i64 0, .int .i64 0, .int .i64 0, .int .i64 0, .int .i32 0, .string ⟨#[]⟩, .slice none 0 0] 32)).heap.size := hkb.size
  clear hkb hV hC hx0 hx1 hx2
  go_enter Tryd.func9, Tryd.ntmps9
  go_upto_region 1 with fail
  generalize (((w.alloc (.cells (scrA s (.slice ca s.cs.length cc) (.slice ta s.tabs.length tc) (.slice ga s.gone.length gc)) 32)).alloc (.cells #[.int .i64 n] 3)).alloc (.cells #[.int .i64 0, .int .i64 0, .slice none 0 0, .int .i64 0, .int .i64 0, .bool false, .int .i64 0, .int .i64 0, .int .i64 0, .int .i64 0, .int .i64 0, .int .i64 0, .slice none 0 0, .int .i64 0, .int .i64 0, .int .i64 0, .int .i64 0, .int .i64 0, .int .i64 0, .int .i32 0, .string ⟨#[]⟩, .slice none 0 0] 32)) = X at *
  go_wp2_with (refine wpList_load_row rfl 32 (.tmp 2) rfl w.heap.size rfl _ _ _ _ HX0.out Tryd.underlying32 rfl (by kernel_rfl) ?_)
  refine HC.mono ?_
  rintro e V ⟨cv', tv', gv', rfl, hO, c2⟩
  obtain ⟨a1, n1, c1, a2, n2, c2', a3, n3, c3, rfl, rfl, rfl⟩ := hO.shapes
  have HO : Hid (ScrO V w0.heap.size _ s' _ _ _) := hO
  have HR : Hid (V.heap[w.heap.size + 2]? = _) := Grd.carry HXR.out c2
  have HB : Hid (Below w.heap.size w V) := HKB.out.trans (c2.mono HKB.out.size)
  clear hO c2 HC
  go_wp2_with (refine wpList_store_row rfl 32 (.tmp 4) (.tmp 9) rfl (w.heap.size + 2) (scrA s' (.slice a1 n1 c1) (.slice a2 n2 c2') (.slice a3 n3 c3)) rfl rfl _ _ HR.out (by kernel_rfl) rfl (scr_one _ _ _ _ _ _ _ _ _ _) ?_)
  (try simp only [Exit.inBlock, Exit.then])
  refine bodyPost_ret (v := .tuple #[.agg (scrA s' (.slice a1 n1 c1) (.slice a2 n2 c2') (.slice a3 n3 c3)), .int .i64 er]) ?_ rfl ⟨_, _, _, rfl, ?_, below_setRow HB.out (by omega) _⟩
  · exact Grd.results_row_tmp rfl _ _ (w.heap.size + 2) _ _ _ _ rfl (setRow_heap _ _ _ _ _ _ HR.out) Tryd.underlying32 rfl (by kernel_rfl) _ rfl
  · exact (ScrO.off HO.out HR.out screen_is (by omega) fun k hk => setRow_other _ _ _ _ hk).mono hsz
end Put
end Go.Proofs.YthokeflechajlaaDoor

/- A screen that came in, where it lies. -/
namespace Go.Proofs.YthokeflechajlaaDoor
open Go.ChangeShapes Go.WideShapes Go.ChangeAt Go.RowKit
namespace Put
/-- A screen that came in, where it lies. -/
structure Met (w0 w : World) (s : Scr) (cv tv gv : Value) : Prop where
  t : Txt.Tab w
  v : ScrV w0 s cv tv gv
  b : Below w0.heap.size w0 w
  f : Fits s
theorem Met.next {w0 w W : World} {s : Scr} {cv tv gv : Value} (h : Met w0 w s cv tv gv) (hb : Below w.heap.size w W) : Met w0 W s cv tv gv := ⟨Grd.Tab.next h.t hb, h.v, h.b.trans (hb.mono h.b.size), h.f⟩
end Put
end Go.Proofs.YthokeflechajlaaDoor

/- SameScreen of two screens that read alike. -/
namespace Go.Proofs.YthokeflechajlaaDoor
open Go.ChangeShapes Go.WideShapes Go.ChangeAt Go.RowKit
namespace Put
open Grd (C SliceAt CellsAt gridErr z0)
set_option maxHeartbeats 1000000 in
theorem eqRows_empty (a1 a2 : Option Addr) (c1 c2 : Nat) (w : World) :
    Calls Tryd.prog 34 #[.slice a1 0 c1, .slice a2 0 c2, .func (.func 11) #[] #[]] w fun e w' => e = .returned (.bool true) ∧ Below w.heap.size w w' := by
  go_enter Tryd.func34, Tryd.ntmps34
  go_wp2_with fail
  go_loopg [17] 0 (fun g i wr => i = .int .i64 0 ∧ Below w.heap.size w wr)
  case atStart => exact ⟨rfl, Below.refl _ _⟩
  case round =>
    obtain ⟨rfl, hb⟩ := hrel
    go_wp2_with fail
    go_ret
    exact ⟨rfl, hb⟩
/-- The rows of two lists of rows that read alike. -/
def RowsA (w : World) (b o : Nat) (l : List (List C)) : Prop := ∀ j, j < l.length → ∃ rv, w.cell? ⟨b, o + j, none⟩ = some rv ∧ SliceAt w rv (l.getD j [])
set_option maxHeartbeats 2000000 in
theorem eqRows_cells (b1 o1 c1 b2 o2 c2 : Nat) (l : List (List C)) (w : World) (h1 : RowsA w b1 o1 l) (h2 : RowsA w b2 o2 l) (hn : l.length ≤ 4398046511104) (hr : ∀ row, row ∈ l → row.length ≤ 4398046511104) :
    Calls Tryd.prog 34 #[.slice (some ⟨b1, o1, none⟩) l.length c1, .slice (some ⟨b2, o2, none⟩) l.length c2, .func (.func 11) #[] #[]] w fun e w' => e = .returned (.bool true) ∧ Below w.heap.size w w' := by
  have H1 : Hid (RowsA w b1 o1 l) := h1
  have H2 : Hid (RowsA w b2 o2 l) := h2
  have HR : Hid (∀ k, k < l.length → (l.getD k []).length ≤ 4398046511104) := fun k hk => by
    rw [List.getD_eq_getElem?_getD, List.getElem?_eq_getElem hk]
    exact hr _ (List.getElem_mem hk)
  clear h1 h2 hr
  unfold RowsA at H1 H2
  generalize hl : l.length = L at *
  have HL : Hid (l.length = L) := hl
  clear hl
  have ne : ((L : Int) != (L : Int)) = false := by simp
  go_enter Tryd.func34, Tryd.ntmps34
  go_wp2_with fail
  go_loopg [17] L (fun g i wr => ∃ k : Nat, i = .int .i64 (k : Int) ∧ k ≤ L ∧ L - k ≤ g ∧ Below w.heap.size w wr)
  case atStart => exact ⟨0, rfl, by omega, by omega, Below.refl _ _⟩
  case round =>
    obtain ⟨k, rfl, hk, hg, hb⟩ := hrel
    by_cases hlt : k < L
    · have lt1 : ((k : Int) < (L : Int)) := by omega
      obtain ⟨r1, p0, s1⟩ := H1.out k hlt
      obtain ⟨r2, q0, s2⟩ := H2.out k hlt
      have p1 := Grd.cell_keep hb p0
      have q1 := Grd.cell_keep hb q0
      have HS1 : Hid (SliceAt wr r1 (l.getD k [])) := s1.below hb
      have HS2 : Hid (SliceAt wr r2 (l.getD k [])) := s2.below hb
      have HLN : Hid ((l.getD k []).length ≤ 4398046511104) := HR.out k hlt
      have HB : Hid (Below w.heap.size w wr) := hb
      obtain ⟨a1, d1, rfl⟩ := s1.shape
      obtain ⟨a2, d2, rfl⟩ := s2.shape
      clear p0 q0 s1 s2 hb
      generalize l.getD k [] = row at *
      go_wp2_with fail
      refine (Grd.equal_slices_big _ _ row _ HS1.out HS2.out HLN.out).mono ?_
      rintro e W1 ⟨rfl, b1⟩
      have HB1 : Hid (Below w.heap.size w W1) := HB.out.trans (b1.mono HB.out.size)
      clear b1 p1 q1
      go_wp2_with fail
      go_roundg (L - (k + 1))
      case measure => omega
      case rel => exact ⟨k + 1, rfl, by omega, by omega, HB1.out⟩
    · have lt1 : ¬ ((k : Int) < (L : Int)) := by omega
      go_wp2_with fail
      go_ret
      exact ⟨rfl, hb⟩
theorem eqRows_any (v1 v2 : Value) (l : List (List C)) (w : World) (h1 : RowsV w v1 l) (h2 : RowsV w v2 l) (hn : l.length ≤ 4398046511104) (hr : ∀ row, row ∈ l → row.length ≤ 4398046511104) :
    Calls Tryd.prog 34 #[v1, v2, .func (.func 11) #[] #[]] w fun e w' => e = .returned (.bool true) ∧ Below w.heap.size w w' := by
  by_cases h0 : l = []
  · obtain ⟨a1, c1, rfl⟩ := h1.slice
    obtain ⟨a2, c2, rfl⟩ := h2.slice
    subst h0
    exact eqRows_empty a1 a2 c1 c2 w
  · rcases h1 with ⟨h, -⟩ | ⟨b1, o1, c1, rfl, -, -, hc1⟩
    · exact absurd h h0
    · rcases h2 with ⟨h, -⟩ | ⟨b2, o2, c2, rfl, -, -, hc2⟩
      · exact absurd h h0
      · exact eqRows_cells b1 o1 c1 b2 o2 c2 l w hc1 hc2 hn hr
theorem sameRows_any (v1 v2 : Value) (l : List (List C)) (w : World) (h1 : RowsV w v1 l) (h2 : RowsV w v2 l) (hn : l.length ≤ 4398046511104) (hr : ∀ row, row ∈ l → row.length ≤ 4398046511104) :
    Calls Tryd.prog 13 #[v1, v2] w fun e w' => e = .returned (.bool true) ∧ Below w.heap.size w w' := by
  have HC := eqRows_any v1 v2 l w h1 h2 hn hr
  obtain ⟨a1, d1, rfl⟩ := h1.slice
  obtain ⟨a2, d2, rfl⟩ := h2.slice
  clear h1 h2
  go_enter Tryd.func13, Tryd.ntmps13
  go_wp2_with fail
  refine HC.mono ?_
  rintro e W1 ⟨rfl, b1⟩
  clear HC
  go_wp2_with fail
  go_ret
  exact ⟨rfl, b1⟩
theorem eql_style (f b x : Int) (w : World) : (binOp .eql 26 (.agg #[.int .i64 f, .int .i64 b, .int .i64 x]) (.agg #[.int .i64 f, .int .i64 b, .int .i64 x])).run Tryd.prog w = .ok (.bool true) w := by
  go_simp
theorem eql_kept (a b c d e f : Int) (w : World) : (binOp .eql 29 (.agg #[.int .i64 a, .int .i64 b, .int .i64 c, .int .i64 d, .int .i64 e, .int .i64 f]) (.agg #[.int .i64 a, .int .i64 b, .int .i64 c, .int .i64 d, .int .i64 e, .int .i64 f])).run Tryd.prog w = .ok (.bool true) w := by
  go_simp
/-- What SameScreen asks of the sizes. -/
structure Small (s : Scr) : Prop where
  c : s.cs.length ≤ 4398046511104
  t : s.tabs.length ≤ 4398046511104
  g : s.gone.length ≤ 4398046511104
  r : ∀ row, row ∈ s.gone → row.length ≤ 4398046511104
end Put
end Go.Proofs.YthokeflechajlaaDoor

/- Package move: within, counted, moved; what stays of a sheet whose words change. -/
namespace Go.Proofs.YthokeflechajlaaDoor
open Go.ChangeShapes Go.WideShapes Go.ChangeAt Go.RowKit
namespace Put
open Grd (C SliceAt CellsAt gridErr z0 nilV flat rowsL)
def withinI (n a b : Int) : Int := min (max n a) b
def cnt (n : Int) : Int := withinI n 1 9999
theorem cnt_range (n : Int) : 1 ≤ cnt n ∧ cnt n ≤ 9999 := by unfold cnt withinI; omega
theorem within_calls (n a b : Int) (w : World) : Calls Tryd.prog 68 #[.int .i64 n, .int .i64 a, .int .i64 b] w fun e w' => e = .returned (.int .i64 (withinI n a b)) ∧ w = w' := by
  have h1 := Grd.max2 n a
  have h2 := Grd.min2 (max n a) b
  go_enter Tryd.func68, Tryd.ntmps68
  go_wp2_with fail
  go_ret
  exact ⟨rfl, rfl⟩
theorem counted_any (n : Int) (w : World) : Calls Tryd.prog 69 #[.int .i64 n] w fun e w' => e = .returned (.int .i64 (cnt n)) ∧ w = w' := by
  have h := within_calls n 1 9999 w
  go_enter Tryd.func69, Tryd.ntmps69
  go_wp2_with fail
  refine h.mono ?_
  rintro e W1 ⟨rfl, hw⟩
  subst hw
  go_wp2_with fail
  go_ret
  exact ⟨rfl, rfl⟩
end Put
end Go.Proofs.YthokeflechajlaaDoor

/- A right screen, and what stays small of it. -/
namespace Go.Proofs.YthokeflechajlaaDoor
open Go.ChangeShapes Go.WideShapes Go.ChangeAt Go.RowKit
namespace Put
open Grd (C SliceAt CellsAt gridErr z0 nilV flat rowsL RightRow)
theorem rightErr {s : Scr} {n hh : Nat} (h : RightS s n hh) : scrErr s = 0 := by
  have hz := h.gz
  rw [← h.w, ← h.h] at hz
  have hp : placeOk s = true := by
    have := h.w
    have := h.h
    have := h.x0
    have := h.x1
    have := h.y0
    have := h.y1
    have := h.kx0
    have := h.kx1
    have := h.ky0
    have := h.ky1
    have := h.t0
    have := h.t1
    have := h.t2
    have := h.t3
    simp only [placeOk, hasC, regionOk, Bool.and_eq_true, Bool.or_eq_true, decide_eq_true_eq]
    omega
  have hr : restOk s = true := by
    simp only [restOk, Bool.and_eq_true, Bool.or_eq_true, Bool.not_eq_true', decide_eq_true_eq, decide_eq_false_iff_not]
    exact ⟨by rw [h.w, h.tl], h.la, h.ti⟩
  have hg : goneErr s.gone = 0 := by
    unfold goneErr
    rw [if_neg (by have := h.gl; omega)]
    have hb : goneBad s.gone = false := by
      unfold goneBad
      rw [List.any_eq_false]
      intro row hrow
      simp [h.gr row hrow]
    rw [hb]
    rfl
  unfold scrErr
  rw [if_neg (by rw [hz]; simp), if_neg (by rw [hp]; simp), if_neg (by rw [h.late]; simp), if_neg (by rw [h.looks]; simp), if_neg (by rw [hr]; simp), hg]
theorem smallOf {s : Scr} {n hh : Nat} (h : RightS s n hh) : Small s := by
  refine ⟨?_, ?_, ?_, ?_⟩
  · have h1 := h.cl
    have h2 := Nat.mul_le_mul h.n2 h.h2
    omega
  · have := h.tl
    have := h.n2
    omega
  · have := h.gl
    omega
  · intro row hrow
    have := (grid_size (h.gr row hrow)).2.1
    omega
theorem rowsL_row {s : Scr} {n hh : Nat} (h : RightS s n hh) (i : Nat) (hi : i < (rowsL n s.cs hh).length) : ((rowsL n s.cs hh).getD i []).length = n := by
  rw [Grd.rowsL_len] at hi
  have e2 : (rowsL n s.cs hh).getD i [] = Grd.rowAt n s.cs i := by simp [rowsL, List.getD, hi]
  rw [e2]
  exact Grd.row_len n hh s.cs i h.cl hi
/-- Rows of that many cells, in the place of a right screen's. -/
theorem rowsOk {s : Scr} {n hh : Nat} (hR : RightS s n hh) (s' : Scr) (rows' : List (List C)) (hl : rows'.length = hh) (hn : ∀ i, i < rows'.length → (rows'.getD i []).length = n) (hg : s'.gone.length ≤ 51) (hg2 : ∀ i, i < s'.gone.length → (s'.gone.getD i []).length ≤ 1048576) : RowsOk s' rows' := by
  have n1 := hR.n1
  have n2 := hR.n2
  have h1 := hR.h1
  have h2 := hR.h2
  have hlen := Grd.flatten_len n rows' hn hh (by omega)
  rw [← hl, List.take_length] at hlen
  refine ⟨by omega, by omega, fun i hi e => ?_, ?_, by omega, hg2⟩
  · have := hn i hi
    rw [e] at this
    simp at this
    omega
  · rw [hlen]
    have := Nat.mul_le_mul (show rows'.length ≤ 60 by omega) n2
    omega
theorem rowsOk_same {s : Scr} {n hh : Nat} (hR : RightS s n hh) (s' : Scr) (hg : s'.gone = s.gone) : RowsOk s' (rowsL n s.cs hh) :=
  rowsOk hR s' _ (Grd.rowsL_len _ _ _) (rowsL_row hR) (by rw [hg]; have := hR.gl; omega) (fun i hi => by rw [hg] at hi ⊢; have := hR.gone_le i hi; omega)
end Put
end Go.Proofs.YthokeflechajlaaDoor

/- Package shift: a screen is changed, or its error told. -/
namespace Go.Proofs.YthokeflechajlaaDoor
open Go.ChangeShapes Go.WideShapes Go.ChangeAt Go.RowKit
namespace Put
open Grd (C SliceAt CellsAt gridErr z0 nilV flat rowsL RightRow)
theorem sc_bad {w0 w : World} {s : Scr} {cv tv gv : Value} (h : Met w0 w s cv tv gv) (hz : scrErr s ≠ 0) (df : FuncId) (caps : Array Value) : Calls Tryd.prog 27 #[.agg (scrA s cv tv gv), .func (.func df) #[] caps] w (Made w0 w zScr (scrErr s)) :=
  schange_any s zScr cv tv gv df caps w0 w h.t h.v h.b h.f fun W _ => made_bad s cv tv gv (scrErr s) hz _ w0 W h.v
theorem sc_good {w0 w : World} {s s' : Scr} {cv tv gv : Value} {n hh : Nat} (h : Met w0 w s cv tv gv) (hR : RightS s n hh) (df : FuncId) (hpl : Plain df) (caps : Array Value) (rows' : List (List C)) (cs' : List C)
    (hM : ∀ w1, Below w.heap.size w w1 → Does df caps w0.heap.size w1 s s' (rowsL n s.cs hh) rows') (hO : RowsOk s' rows') (hcs : rows'.flatten = cs') :
    Calls Tryd.prog 27 #[.agg (scrA s cv tv gv), .func (.func df) #[] caps] w (Made w0 w { s' with cs := cs' } 0) := by
  have hz := rightErr hR
  have key := schange_any s { s' with cs := cs' } cv tv gv df caps w0 w h.t h.v h.b h.f fun W hW => by
    rw [hz]
    exact change_good n hh s s' rows' cv tv gv df hpl caps w0 W h.v (h.b.trans (hW.mono h.b.size)) h.f hR.w hR.h hR.gz (fun w1 hw1 => hM w1 (hW.trans (hw1.mono hW.size))) hO cs' hcs
  rwa [hz] at key
end Put
end Go.Proofs.YthokeflechajlaaDoor

/- Rows that move, as values. -/
namespace Go.Proofs.YthokeflechajlaaDoor
open Go.ChangeShapes Go.WideShapes Go.ChangeAt Go.RowKit
namespace Put
open Grd (C)
def iterN {α : Type} (f : α → α) : Nat → α → α
  | 0, x => x
  | k + 1, x => f (iterN f k x)
/-- Rows move up, once; what leaves at the top may be kept. -/
def rUp (n top bot : Nat) (keep : Bool) (x : Scr × List (List C)) : Scr × List (List C) := (if top = 0 ∧ keep = true then { x.1 with gone := keepG x.1.gone (x.2.getD 0 []) } else x.1, replR x.2 n x.1.sb top bot)
/-- Rows move down, once. -/
def rDn (n top bot : Nat) (x : Scr × List (List C)) : Scr × List (List C) := (x.1, replR x.2 n x.1.sb bot top)
/-- What stays while rows move. -/
structure Rolls (n bot hh : Nat) (bk : Int) (x : Scr × List (List C)) : Prop where
  w : x.1.w = n
  b : x.1.bot = bot
  k : x.1.sb = bk
  r : x.2.length = hh
  g : x.1.gone.length ≤ 50
theorem Rolls.up {n bot hh : Nat} {bk : Int} {x : Scr × List (List C)} (h : Rolls n bot hh bk x) (top : Nat) (keep : Bool) (ht : top < hh) (hb : bot < hh) : Rolls n bot hh bk (rUp n top bot keep x) := by
  have hr : (replR x.2 n x.1.sb top bot).length = hh := by rw [replR_len _ _ _ _ _ (by rw [h.r]; exact ht) (by rw [h.r]; exact hb), h.r]
  unfold rUp
  split
  · exact ⟨h.w, h.b, h.k, hr, keepG_len _ _ h.g⟩
  · exact ⟨h.w, h.b, h.k, hr, h.g⟩
theorem Rolls.dn {n bot hh : Nat} {bk : Int} {x : Scr × List (List C)} (h : Rolls n bot hh bk x) (top : Nat) (ht : top < hh) (hb : bot < hh) : Rolls n bot hh bk (rDn n top bot x) :=
  ⟨h.w, h.b, h.k, by show (replR x.2 n x.1.sb bot top).length = hh; rw [replR_len _ _ _ _ _ (by rw [h.r]; exact hb) (by rw [h.r]; exact ht), h.r], h.g⟩
end Put
end Go.Proofs.YthokeflechajlaaDoor

/- (*sheet.Sheet).Feed at Bottom; shift's Back, moveRows. -/
namespace Go.Proofs.YthokeflechajlaaDoor
open Go.ChangeShapes Go.WideShapes Go.ChangeAt Go.RowKit
namespace Put
open Grd (C SliceAt CellsAt gridErr z0 nilV flat rowsL)
set_option maxHeartbeats 2000000 in
set_option maxRecDepth 100000 in
theorem feed_roll (W : World) (M N p n : Nat) (s : Scr) (rows : List (List C)) (hS : ShAt 63 W M N p s rows) (top bot : Nat) (ht : s.top = top) (hb : s.bot = bot) (hy : s.y = s.bot) (hw : s.w = n) (hn1 : 1 ≤ n) (hn2 : n ≤ 120) (hg : top < rows.length) (hf : bot < rows.length) (hrl : rows.length ≤ 60) (hgl : s.gone.length ≤ 50) :
    Calls Tryd.prog 62 #[.pointer (some ⟨p, 0, none⟩)] W (Ran W M N p (upS { s with late := false } rows top) (replR rows n s.sb top bot)) := by
  obtain ⟨c0, c1, c3, c4, c5, c9, c10, c11, c19, f⟩ := hS.words
  have f5 := f 5
  obtain ⟨hS1, hB1, hF1⟩ := hS.put 5 (.bool false) (s' := { s with late := false }) (fun _ _ _ _ => rfl) rfl rfl
  have HS1 : Hid (ShAt 63 (W.setCell ⟨p, 5, none⟩ (.bool false)) M N p { s with late := false } rows) := hS1
  have HB1 : Hid (Below N W (W.setCell ⟨p, 5, none⟩ (.bool false))) := hB1
  have HF1 : Hid (Framed W (W.setCell ⟨p, 5, none⟩ (.bool false))) := hF1
  have HU : Hid (∀ V, ShAt 63 V M N p { s with late := false } rows → Calls Tryd.prog 30 #[.pointer (some ⟨p, 0, none⟩), .int .i64 (top : Int)] V (Ran V M N p (upS { s with late := false } rows top) (replR rows n s.sb top bot))) := fun V h => up_any' V M N p n _ rows h top bot hb hw hn1 hn2 hg hf hrl hgl
  have HT : Hid (s.top = top) := ht
  have hq : (s.y == s.bot) = true := by rw [beq_iff_eq]; exact hy
  clear hS1 hB1 hF1 hS hy hb ht c0 c1 c3 c4 c9 c10 c11 c19 f
  generalize upS { s with late := false } rows top = s' at *
  generalize replR rows n s.sb top bot = rows' at *
  go_enter Tryd.func62, Tryd.ntmps62
  go_upto_region 1 with fail
  obtain ⟨-, -, -, d4, -, d9, d10, -, -, df⟩ := HS1.out.words
  clear c5 f5 df
  generalize (W.setCell ⟨p, 5, none⟩ (.bool false)) = X at *
  go_region
  have HSd : Hid (ShAt 63 X.drew M N p { s with late := false } rows) := HS1.out.drew
  have HB2 : Hid (Below N W X.drew) := HB1.out.drew
  have HF2 : Hid (Framed W X.drew) := HF1.out.trans (Framed.of_below ((Below.refl _ _).drew))
  clear d4 d9 d10 HS1 HB1 HF1
  generalize X.drew = Y at *
  obtain ⟨-, -, -, -, -, d9, -, -, -, df⟩ := HSd.out.words
  replace d9 : Y.cell? ⟨p, 9, none⟩ = some (.int .i64 s.top) := d9
  rw [HT.out] at d9
  have HU2 := HU.out Y HSd.out
  clear df HU HSd
  go_wp2_with fail
  refine HU2.mono ?_
  rintro e V ⟨rfl, hS2, hB3, hF3⟩
  go_wp2_with fail
  go_end0
  exact ⟨rfl, hS2, HB2.out.trans hB3, HF2.out.trans hF3⟩
/-- To the row above. -/
def backS (s : Scr) : Scr := if s.y = s.top then { s with late := false } else if 0 < s.y then { s with late := false, y := s.y - 1 } else { s with late := false }
end Put
end Go.Proofs.YthokeflechajlaaDoor

/- Package shift: counted, moveRows; the closures of Up, Down, changeLines. -/
namespace Go.Proofs.YthokeflechajlaaDoor
open Go.ChangeShapes Go.WideShapes Go.ChangeAt Go.RowKit
namespace Put
open Grd (C SliceAt CellsAt gridErr z0 nilV flat rowsL)
theorem countedS_any (n : Int) (w : World) : Calls Tryd.prog 54 #[.int .i64 n] w fun e w' => e = .returned (.int .i64 (cnt n)) ∧ w = w' := by
  have h1 := Grd.max2 n 1
  have h2 := Grd.min2 (max n 1) 9999
  go_enter Tryd.func54, Tryd.ntmps54
  go_wp2_with fail
  go_ret
  exact ⟨rfl, rfl⟩
/-- What one step makes of a sheet. -/
def StepAt (F : FuncId) (M N p n top bot hh : Nat) (bk : Int) (f : Scr × List (List C) → Scr × List (List C)) : Prop :=
  ∀ V x, Rolls n bot hh bk x → ShAt 63 V M N p x.1 x.2 → Calls Tryd.prog F #[.pointer (some ⟨p, 0, none⟩), .int .i64 (top : Int)] V fun e V' => e = .returned (.tuple #[]) ∧ ShAt 63 V' M N p (f x).1 (f x).2 ∧ Below N V V'
theorem iterN_rolls {n bot hh : Nat} {bk : Int} {f : Scr × List (List C) → Scr × List (List C)} (hf : ∀ x, Rolls n bot hh bk x → Rolls n bot hh bk (f x)) (x : Scr × List (List C)) (h : Rolls n bot hh bk x) : ∀ j, Rolls n bot hh bk (iterN f j x)
  | 0 => h
  | j + 1 => hf _ (iterN_rolls hf x h j)
set_option maxHeartbeats 4000000 in
set_option maxRecDepth 100000 in
theorem moveRows_any (F : FuncId) (hpl : Plain F) (f : Scr × List (List C) → Scr × List (List C)) (W : World) (M N p n top bot hh K : Nat) (bk k : Int) (s : Scr) (rows : List (List C)) (hS : ShAt 63 W M N p s rows) (hR : Rolls n bot hh bk (s, rows)) (hf : ∀ x, Rolls n bot hh bk x → Rolls n bot hh bk (f x)) (hF : StepAt F M N p n top bot hh bk f) (htb : top ≤ bot) (hbh : bot < hh) (hh60 : hh ≤ 60) (hK : min (cnt k) ((bot : Int) - top + 1) = (K : Int)) :
    Calls Tryd.prog 29 #[.pointer (some ⟨p, 0, none⟩), .int .i64 (top : Int), .int .i64 k, .func (.func F) #[] #[]] W fun e W' => e = .returned (.tuple #[]) ∧ ShAt 63 W' M N p (iterN f K (s, rows)).1 (iterN f K (s, rows)).2 ∧ Below N W W' := by
  obtain ⟨c0, c1, c3, c4, c5, c9, c10, c11, c19, fz⟩ := hS.words
  have hb0 : s.bot = bot := hR.b
  rw [hb0] at c10
  have HCT : Hid (∀ V, Calls Tryd.prog 54 #[.int .i64 k] V fun e w' => e = .returned (.int .i64 (cnt k)) ∧ V = w') := fun V => countedS_any k V
  have hmn := Grd.min2 (cnt k) ((bot : Int) - top + 1)
  rw [hK] at hmn
  have hc := cnt_range k
  have hw1 : IntKind.i64.wrap ((bot : Int) - top) = (bot : Int) - top := wrap_id _ (by omega) (by omega)
  have hw2 : IntKind.i64.wrap ((bot : Int) - top + 1) = (bot : Int) - top + 1 := wrap_id _ (by omega) (by omega)
  have hKl : K ≤ 60 := by omega
  have HS : Hid (ShAt 63 W.drew M N p s rows) := hS.drew
  have HBd : Hid (Below N W W.drew) := (Below.refl _ _).drew
  have HRR : Hid (∀ j, Rolls n bot hh bk (iterN f j (s, rows))) := iterN_rolls hf (s, rows) hR
  have HF : Hid (StepAt F M N p n top bot hh bk f) := hF
  unfold Plain at hpl
  have e0 : W.drew.cell? ⟨p, 10, none⟩ = some (.int .i64 (bot : Int)) := c10
  clear hS hR hf hF hb0 hK c0 c1 c3 c4 c5 c9 c11 c19 fz
  generalize cnt k = ck at *
  go_enter Tryd.func29, Tryd.ntmps29
  go_upto_region 0 with fail
  go_region_held3 (fun w' => w'.cell? ⟨p, 10, none⟩ = some (.int .i64 (bot : Int)))
    (first | exact e0)
    (first | (go_at_call 54; refine (HCT.out _).mono ?_; rintro e V ⟨rfl, hv⟩; subst hv))
  clear c10 e0 hmn HCT hw1 hw2
  generalize W.drew = X at *
  go_wp2_with fail
  go_loopg [19] K (fun q v wr => ∃ j : Nat, v = .int .i64 (j : Int) ∧ j ≤ K ∧ K - j ≤ q ∧ ShAt 63 wr M N p (iterN f j (s, rows)).1 (iterN f j (s, rows)).2 ∧ Below N W wr)
  case atStart => exact ⟨0, rfl, by omega, by omega, HS.out, HBd.out⟩
  case round =>
    obtain ⟨j, rfl, hjK, hq, hSj, hBj⟩ := hrel
    by_cases hlt : j < K
    · have lt1 : (j : Int) < (K : Int) := by omega
      have HST := HF.out wr _ (HRR.out j) hSj
      have HB : Hid (Below N W wr) := hBj
      have HN : Hid (iterN f (j + 1) (s, rows) = f (iterN f j (s, rows))) := rfl
      generalize iterN f j (s, rows) = x at HST HN
      clear hSj hBj HS HBd
      go_wp2_with fail
      refine HST.mono ?_
      rintro e V ⟨rfl, hS2, hB2⟩
      go_wp2_with fail
      go_roundg (K - (j + 1))
      case measure => omega
      case rel => exact ⟨j + 1, by first | rfl | simp, by omega, by omega, by rw [HN.out]; exact hS2, HB.out.trans hB2⟩
    · have lt1 : ¬ (j : Int) < (K : Int) := by omega
      have ej : j = K := by omega
      subst ej
      go_wp2_with fail
      go_end0
      exact ⟨rfl, hSj, hBj⟩
theorem plain_up : Plain 30 := by
  intro args W
  kernel_rfl
theorem plain_down : Plain 32 := by
  intro args W
  kernel_rfl
theorem plain_drop : Plain 56 := by
  intro args W
  kernel_rfl
theorem step_up (M N p n top bot hh : Nat) (bk : Int) (hn1 : 1 ≤ n) (hn2 : n ≤ 120) (htb : top ≤ bot) (hbh : bot < hh) (hh60 : hh ≤ 60) : StepAt 30 M N p n top bot hh bk (rUp n top bot true) := by
  intro V x hR hS
  refine (up_any' V M N p n x.1 x.2 hS top bot hR.b hR.w hn1 hn2 (by have := hR.r; omega) (by have := hR.r; omega) (by have := hR.r; omega) hR.g).mono ?_
  rintro e V' ⟨rfl, h1, h2, -⟩
  refine ⟨rfl, ?_, h2⟩
  have e : rUp n top bot true x = (upS x.1 x.2 top, replR x.2 n x.1.sb top bot) := by
    unfold rUp upS
    simp
  rw [e]
  exact h1
theorem step_down (M N p n top bot hh : Nat) (bk : Int) (hn1 : 1 ≤ n) (hn2 : n ≤ 120) (htb : top ≤ bot) (hbh : bot < hh) (hh60 : hh ≤ 60) : StepAt 32 M N p n top bot hh bk (rDn n top bot) := by
  intro V x hR hS
  refine (down_any' V M N p n x.1 x.2 hS top bot hR.b hR.w hn1 hn2 (by have := hR.r; omega) (by have := hR.r; omega) (by have := hR.r; omega)).mono ?_
  rintro e V' ⟨rfl, h1, h2, -⟩
  exact ⟨rfl, h1, h2⟩
theorem step_drop (M N p n top bot hh : Nat) (bk : Int) (hn1 : 1 ≤ n) (hn2 : n ≤ 120) (htb : top ≤ bot) (hbh : bot < hh) (hh60 : hh ≤ 60) : StepAt 56 M N p n top bot hh bk (rUp n top bot false) := by
  intro V x hR hS
  refine (drop_any V M N p n x.1 x.2 hS top bot hR.b hR.w hn1 hn2 (by have := hR.r; omega) (by have := hR.r; omega) (by have := hR.r; omega)).mono ?_
  rintro e V' ⟨rfl, h1, h2, -⟩
  refine ⟨rfl, ?_, h2⟩
  have e : rUp n top bot false x = (x.1, replR x.2 n x.1.sb top bot) := by
    unfold rUp
    simp
  rw [e]
  exact h1
end Put
end Go.Proofs.YthokeflechajlaaDoor

/- Package shift: the closures of Up, Down and changeLines. -/
namespace Go.Proofs.YthokeflechajlaaDoor
open Go.ChangeShapes Go.WideShapes Go.ChangeAt Go.RowKit
namespace Put
open Grd (C SliceAt CellsAt gridErr z0 nilV flat rowsL)
/-- How often rows move. -/
def oftK (k : Int) (top bot : Nat) : Nat := (min (cnt k) ((bot : Int) - top + 1)).toNat
theorem oftK_eq (k : Int) (top bot : Nat) (h : top ≤ bot) : min (cnt k) ((bot : Int) - top + 1) = (oftK k top bot : Int) := by
  have := cnt_range k
  unfold oftK
  omega
set_option maxHeartbeats 2000000 in
set_option maxRecDepth 100000 in
theorem upc_does (k : Int) (B1 M : Nat) (w : World) (s : Scr) (rows : List (List C)) (n top bot hh : Nat) (hB1 : w.cell? ⟨B1, 0, none⟩ = some (.int .i64 k)) (hR : Rolls n bot hh s.sb (s, rows)) (ht : s.top = top) (hn1 : 1 ≤ n) (hn2 : n ≤ 120) (htb : top ≤ bot) (hbh : bot < hh) (hh60 : hh ≤ 60) :
    Does 28 #[.pointer (some ⟨B1, 0, none⟩)] M w s (iterN (rUp n top bot true) (oftK k top bot) (s, rows)).1 rows (iterN (rUp n top bot true) (oftK k top bot) (s, rows)).2 := by
  intro W p hb hS
  have b0 : Below w.heap.size W W.drew := (Below.refl _ _).drew
  have q1 := cell_stay (hb.trans b0) hB1
  have hSd : ShAt 63 W.drew M w.heap.size p s rows := hS.drew
  obtain ⟨-, -, -, -, -, c9, -, -, -, -⟩ := hSd.words
  rw [ht] at c9
  have HM := moveRows_any 30 plain_up (rUp n top bot true) W.drew M _ p n top bot hh _ s.sb k s rows hSd hR (fun x hx => hx.up top true (by omega) hbh) (step_up M _ p n top bot hh s.sb hn1 hn2 htb hbh hh60) htb hbh hh60 (oftK_eq k top bot htb)
  have HB : Hid (Below w.heap.size W W.drew) := b0
  generalize iterN (rUp n top bot true) (oftK k top bot) (s, rows) = z at *
  clear hS hSd hB1 hR ht hb b0
  go_enter Tryd.func28, Tryd.ntmps28
  go_upto_region 0 with fail
  go_region_with (first | (go_at_call 29; refine HM.mono ?_; rintro e V ⟨rfl, h1, h2⟩; have h3 := HB.out.trans h2))
  all_goals go_wp2_with fail
  all_goals go_end0
  all_goals exact ⟨rfl, h1, h3⟩
set_option maxHeartbeats 2000000 in
set_option maxRecDepth 100000 in
theorem downc_does (k : Int) (B1 M : Nat) (w : World) (s : Scr) (rows : List (List C)) (n top bot hh : Nat) (hB1 : w.cell? ⟨B1, 0, none⟩ = some (.int .i64 k)) (hR : Rolls n bot hh s.sb (s, rows)) (ht : s.top = top) (hn1 : 1 ≤ n) (hn2 : n ≤ 120) (htb : top ≤ bot) (hbh : bot < hh) (hh60 : hh ≤ 60) :
    Does 31 #[.pointer (some ⟨B1, 0, none⟩)] M w s (iterN (rDn n top bot) (oftK k top bot) (s, rows)).1 rows (iterN (rDn n top bot) (oftK k top bot) (s, rows)).2 := by
  intro W p hb hS
  have b0 : Below w.heap.size W W.drew := (Below.refl _ _).drew
  have q1 := cell_stay (hb.trans b0) hB1
  have hSd : ShAt 63 W.drew M w.heap.size p s rows := hS.drew
  obtain ⟨-, -, -, -, -, c9, -, -, -, -⟩ := hSd.words
  rw [ht] at c9
  have HM := moveRows_any 32 plain_down (rDn n top bot) W.drew M _ p n top bot hh _ s.sb k s rows hSd hR (fun x hx => hx.dn top (by omega) hbh) (step_down M _ p n top bot hh s.sb hn1 hn2 htb hbh hh60) htb hbh hh60 (oftK_eq k top bot htb)
  have HB : Hid (Below w.heap.size W W.drew) := b0
  generalize iterN (rDn n top bot) (oftK k top bot) (s, rows) = z at *
  clear hS hSd hB1 hR ht hb b0
  go_enter Tryd.func31, Tryd.ntmps31
  go_upto_region 0 with fail
  go_region_with (first | (go_at_call 29; refine HM.mono ?_; rintro e V ⟨rfl, h1, h2⟩; have h3 := HB.out.trans h2))
  all_goals go_wp2_with fail
  all_goals go_end0
  all_goals exact ⟨rfl, h1, h3⟩
end Put
end Go.Proofs.YthokeflechajlaaDoor

/- What is kept of rows that went. -/
namespace Go.Proofs.YthokeflechajlaaDoor
open Go.ChangeShapes Go.WideShapes Go.ChangeAt Go.RowKit
namespace Put
open Grd (C)
theorem keepG_mem {g : List (List C)} {row r : List C} (h : r ∈ keepG g row) : r ∈ g ∨ r = row := by
  unfold keepG at h
  split at h
  · simpa using h
  · simpa using List.mem_of_mem_eraseIdx h
theorem keepG_rows {s : Scr} {n hh : Nat} (hR : RightS s n hh) (row : List C) (hr : row.length = n) : ∀ r, r ∈ keepG s.gone row → r.length ≤ 120 := by
  intro r hm
  rcases keepG_mem hm with h | h
  · have := (grid_size (hR.gr r h)).2.1
    omega
  · have := hR.n2
    rw [h, hr]
    omega
theorem rows_le {l : List (List C)} (h : ∀ r, r ∈ l → r.length ≤ 120) (i : Nat) (hi : i < l.length) : (l.getD i []).length ≤ 1048576 := by
  have e : l.getD i [] = l[i] := by simp [List.getD, hi]
  rw [e]
  have := h _ (List.getElem_mem hi)
  omega
theorem gone_le120 {s : Scr} {n hh : Nat} (hR : RightS s n hh) : ∀ r, r ∈ s.gone → r.length ≤ 120 := fun r hr => by
  have := (grid_size (hR.gr r hr)).2.1
  omega
end Put
end Go.Proofs.YthokeflechajlaaDoor

/- Package shift: Up and Down of a right screen, and of another. (Cut out of what gen_shiftlines.py wrote.) -/
namespace Go.Proofs.YthokeflechajlaaDoor
open Go.ChangeShapes Go.WideShapes Go.ChangeAt Go.RowKit
namespace Put
open Grd (C SliceAt CellsAt gridErr z0 nilV flat rowsL)
/-- What rows that move leave as it is. -/
structure KeepsR (s : Scr) (n hh : Nat) (x : Scr × List (List C)) : Prop where
  w : x.1.w = s.w
  h : x.1.h = s.h
  t : x.1.tabs = s.tabs
  g : x.1.gone.length ≤ 50
  gr : ∀ r, r ∈ x.1.gone → r.length ≤ 120
  r : x.2.length = hh
  rn : ∀ i, i < x.2.length → (x.2.getD i []).length = n
theorem KeepsR.up {s : Scr} {n hh : Nat} {x : Scr × List (List C)} (h : KeepsR s n hh x) (hn : n ≤ 120) (top bot : Nat) (keep : Bool) (ht : top < hh) (hb : bot < hh) : KeepsR s n hh (rUp n top bot keep x) := by
  have hr := h.r
  have e1 : (replR x.2 n x.1.sb top bot).length = hh := by rw [replR_len _ _ _ _ _ (by omega) (by omega), hr]
  have e2 : ∀ i, i < (replR x.2 n x.1.sb top bot).length → ((replR x.2 n x.1.sb top bot).getD i []).length = n := fun i hi => replR_row _ _ _ _ _ (by omega) (by omega) h.rn i (by omega)
  unfold rUp
  split
  · refine ⟨h.w, h.h, h.t, keepG_len _ _ h.g, fun r hm => ?_, e1, e2⟩
    rcases keepG_mem hm with q | q
    · exact h.gr r q
    · rw [q, h.rn 0 (by omega)]
      exact hn
  · exact ⟨h.w, h.h, h.t, h.g, h.gr, e1, e2⟩
theorem KeepsR.dn {s : Scr} {n hh : Nat} {x : Scr × List (List C)} (h : KeepsR s n hh x) (top bot : Nat) (ht : top < hh) (hb : bot < hh) : KeepsR s n hh (rDn n top bot x) := by
  have hr := h.r
  exact ⟨h.w, h.h, h.t, h.g, h.gr, by show (replR x.2 n x.1.sb bot top).length = hh; rw [replR_len _ _ _ _ _ (by omega) (by omega), hr], fun i hi => replR_row _ _ _ _ _ (by omega) (by omega) h.rn i (by have : (replR x.2 n x.1.sb bot top).length = x.2.length := replR_len _ _ _ _ _ (by omega) (by omega); have hi : i < (replR x.2 n x.1.sb bot top).length := hi; omega)⟩
theorem KeepsR.iter {s : Scr} {n hh : Nat} {f : Scr × List (List C) → Scr × List (List C)} (hf : ∀ x, KeepsR s n hh x → KeepsR s n hh (f x)) (x : Scr × List (List C)) (h : KeepsR s n hh x) : ∀ j, KeepsR s n hh (iterN f j x)
  | 0 => h
  | j + 1 => hf _ (KeepsR.iter hf x h j)
theorem KeepsR.start {s s1 : Scr} {n hh : Nat} (hR : RightS s n hh) (hw : s1.w = s.w) (hh' : s1.h = s.h) (ht : s1.tabs = s.tabs) (hg : s1.gone = s.gone) : KeepsR s n hh (s1, rowsL n s.cs hh) :=
  ⟨hw, hh', ht, by show s1.gone.length ≤ 50; rw [hg]; exact hR.gl, by show ∀ r, r ∈ s1.gone → r.length ≤ 120; rw [hg]; exact gone_le120 hR, Grd.rowsL_len _ _ _, rowsL_row hR⟩
theorem KeepsR.ok {s : Scr} {n hh : Nat} {x : Scr × List (List C)} (h : KeepsR s n hh x) (hR : RightS s n hh) : RowsOk x.1 x.2 := rowsOk hR _ _ h.r h.rn (by have := h.g; omega) (rows_le h.gr)
theorem rolls_of {s : Scr} {n hh bot : Nat} (hR : RightS s n hh) (hb : s.bot = bot) : Rolls n bot hh s.sb (s, rowsL n s.cs hh) := ⟨hR.w, hb, rfl, Grd.rowsL_len _ _ _, hR.gl⟩
theorem plain_supc : Plain 28 := by
  intro args W
  kernel_rfl
theorem plainF_sup : Plain 8 := by
  intro args W
  kernel_rfl
theorem sup_any {w0 w : World} {s : Scr} {cv tv gv : Value} {n hh : Nat} (h : Met w0 w s cv tv gv) (hR : RightS s n hh) (top bot : Nat) (ht : s.top = top) (hb : s.bot = bot) (k : Int) : Calls Tryd.prog 8 #[.agg (scrA s cv tv gv), .int .i64 k] w (Made w0 w { (iterN (rUp n top bot true) (oftK k top bot) (s, rowsL n s.cs hh)).1 with cs := (iterN (rUp n top bot true) (oftK k top bot) (s, rowsL n s.cs hh)).2.flatten } 0) := by
  have n1 := hR.n1
  have n2 := hR.n2
  have h2 := hR.h2
  have t1 := hR.t1
  have t2 := hR.t2
  have hK := KeepsR.iter (f := rUp n top bot true) (fun x hx => hx.up hR.n2 top bot true (by omega) (by omega)) (s, rowsL n s.cs hh) (KeepsR.start hR rfl rfl rfl rfl) (oftK k top bot)
  exact shiftUp_calls s _ cv tv gv k 0 w0 w h.v h.b.size fun _ B hW hB => sc_good (h.next hW) hR _ plain_supc _ _ _ (fun w1 hw1 => upc_does k B _ w1 s _ n top bot hh (cell_stay hw1 hB) (rolls_of hR hb) ht n1 n2 (by omega) (by omega) h2) (hK.ok hR) rfl
theorem sup_bad {w0 w : World} {s : Scr} {cv tv gv : Value} (h : Met w0 w s cv tv gv) (hz : scrErr s ≠ 0) (k : Int) : Calls Tryd.prog 8 #[.agg (scrA s cv tv gv), .int .i64 k] w (Made w0 w zScr (scrErr s)) :=
  shiftUp_calls s zScr cv tv gv k (scrErr s) w0 w h.v h.b.size fun _ _ hW _ => sc_bad (h.next hW) hz _ _
theorem plain_sdownc : Plain 31 := by
  intro args W
  kernel_rfl
theorem plainF_sdown : Plain 9 := by
  intro args W
  kernel_rfl
theorem sdown_any {w0 w : World} {s : Scr} {cv tv gv : Value} {n hh : Nat} (h : Met w0 w s cv tv gv) (hR : RightS s n hh) (top bot : Nat) (ht : s.top = top) (hb : s.bot = bot) (k : Int) : Calls Tryd.prog 9 #[.agg (scrA s cv tv gv), .int .i64 k] w (Made w0 w { (iterN (rDn n top bot) (oftK k top bot) (s, rowsL n s.cs hh)).1 with cs := (iterN (rDn n top bot) (oftK k top bot) (s, rowsL n s.cs hh)).2.flatten } 0) := by
  have n1 := hR.n1
  have n2 := hR.n2
  have h2 := hR.h2
  have t1 := hR.t1
  have t2 := hR.t2
  have hK := KeepsR.iter (f := rDn n top bot) (fun x hx => hx.dn top bot (by omega) (by omega)) (s, rowsL n s.cs hh) (KeepsR.start hR rfl rfl rfl rfl) (oftK k top bot)
  exact shiftDown_calls s _ cv tv gv k 0 w0 w h.v h.b.size fun _ B hW hB => sc_good (h.next hW) hR _ plain_sdownc _ _ _ (fun w1 hw1 => downc_does k B _ w1 s _ n top bot hh (cell_stay hw1 hB) (rolls_of hR hb) ht n1 n2 (by omega) (by omega) h2) (hK.ok hR) rfl
theorem sdown_bad {w0 w : World} {s : Scr} {cv tv gv : Value} (h : Met w0 w s cv tv gv) (hz : scrErr s ≠ 0) (k : Int) : Calls Tryd.prog 9 #[.agg (scrA s cv tv gv), .int .i64 k] w (Made w0 w zScr (scrErr s)) :=
  shiftDown_calls s zScr cv tv gv k (scrErr s) w0 w h.v h.b.size fun _ _ hW _ => sc_bad (h.next hW) hz _ _
end Put
end Go.Proofs.YthokeflechajlaaDoor

/- Plain mathematics of rows that move. -/
namespace Go.Proofs.YthokeflechajlaaDoor
namespace Put
open Grd (C)
theorem replR_up (rows : List (List C)) (n : Nat) (bk : Int) (top bot : Nat) (htb : top ≤ bot) (hb : bot < rows.length) (y : Nat) :
    (replR rows n bk top bot).getD y [] = if y < top then rows.getD y [] else if y < bot then rows.getD (y + 1) [] else if y = bot then List.replicate n (32, 0, bk, 0) else rows.getD y [] := by
  have hl : (rows.eraseIdx top).length = rows.length - 1 := List.length_eraseIdx_of_lt (by omega)
  unfold replR
  rw [getD_insert _ _ _ _ _ (by omega)]
  by_cases h1 : y < top
  · rw [if_pos h1, if_pos (by omega), getD_erase, if_pos h1]
  · rw [if_neg h1]
    by_cases h2 : y < bot
    · rw [if_pos h2, if_pos h2, getD_erase, if_neg h1]
    · rw [if_neg h2, if_neg h2]
      by_cases h3 : y = bot
      · rw [if_pos h3, if_pos h3]
      · rw [if_neg h3, if_neg h3, getD_erase, if_neg (by omega), show y - 1 + 1 = y by omega]
theorem replR_down (rows : List (List C)) (n : Nat) (bk : Int) (top bot : Nat) (htb : top ≤ bot) (hb : bot < rows.length) (y : Nat) :
    (replR rows n bk bot top).getD y [] = if y < top then rows.getD y [] else if y = top then List.replicate n (32, 0, bk, 0) else if y ≤ bot then rows.getD (y - 1) [] else rows.getD y [] := by
  have hl : (rows.eraseIdx bot).length = rows.length - 1 := List.length_eraseIdx_of_lt (by omega)
  unfold replR
  rw [getD_insert _ _ _ _ _ (by omega)]
  by_cases h1 : y < top
  · rw [if_pos h1, if_pos h1, getD_erase, if_pos (by omega)]
  · rw [if_neg h1, if_neg h1]
    by_cases h2 : y = top
    · rw [if_pos h2, if_pos h2]
    · rw [if_neg h2, if_neg h2, getD_erase]
      by_cases h3 : y ≤ bot
      · rw [if_pos h3, if_pos (by omega)]
      · rw [if_neg h3, if_neg (by omega), show y - 1 + 1 = y by omega]
theorem rUp_rows (n top bot : Nat) (keep : Bool) (x : Scr × List (List C)) : (rUp n top bot keep x).2 = replR x.2 n x.1.sb top bot := rfl
theorem rDn_rows (n top bot : Nat) (x : Scr × List (List C)) : (rDn n top bot x).2 = replR x.2 n x.1.sb bot top := rfl
theorem iterUp_len (n top bot : Nat) (keep : Bool) (htb : top ≤ bot) (x : Scr × List (List C)) (hb : bot < x.2.length) : ∀ k, (iterN (rUp n top bot keep) k x).2.length = x.2.length
  | 0 => rfl
  | k + 1 => by
    have ih := iterUp_len n top bot keep htb x hb k
    show (rUp n top bot keep (iterN (rUp n top bot keep) k x)).2.length = _
    rw [rUp_rows, replR_len _ _ _ _ _ (by omega) (by omega), ih]
theorem iterDn_len (n top bot : Nat) (htb : top ≤ bot) (x : Scr × List (List C)) (hb : bot < x.2.length) : ∀ k, (iterN (rDn n top bot) k x).2.length = x.2.length
  | 0 => rfl
  | k + 1 => by
    have ih := iterDn_len n top bot htb x hb k
    show (rDn n top bot (iterN (rDn n top bot) k x)).2.length = _
    rw [rDn_rows, replR_len _ _ _ _ _ (by omega) (by omega), ih]
/-- Rows outside those that scroll stay. -/
theorem iterUp_out (n top bot : Nat) (keep : Bool) (htb : top ≤ bot) (x : Scr × List (List C)) (hb : bot < x.2.length) (y : Nat) (hy : y < top ∨ bot < y) : ∀ k, (iterN (rUp n top bot keep) k x).2.getD y [] = x.2.getD y []
  | 0 => rfl
  | k + 1 => by
    have ih := iterUp_out n top bot keep htb x hb y hy k
    have hl := iterUp_len n top bot keep htb x hb k
    show (rUp n top bot keep (iterN (rUp n top bot keep) k x)).2.getD y [] = _
    rw [rUp_rows, replR_up _ _ _ _ _ htb (by omega), ih]
    by_cases h1 : y < top
    · rw [if_pos h1]
    · rw [if_neg h1, if_neg (by omega), if_neg (by omega)]
theorem iterDn_out (n top bot : Nat) (htb : top ≤ bot) (x : Scr × List (List C)) (hb : bot < x.2.length) (y : Nat) (hy : y < top ∨ bot < y) : ∀ k, (iterN (rDn n top bot) k x).2.getD y [] = x.2.getD y []
  | 0 => rfl
  | k + 1 => by
    have ih := iterDn_out n top bot htb x hb y hy k
    have hl := iterDn_len n top bot htb x hb k
    show (rDn n top bot (iterN (rDn n top bot) k x)).2.getD y [] = _
    rw [rDn_rows, replR_down _ _ _ _ _ htb (by omega), ih]
    by_cases h1 : y < top
    · rw [if_pos h1]
    · rw [if_neg h1, if_neg (by omega), if_neg (by omega)]
/-- What moved up k times. -/
theorem iterUp_in (n top bot : Nat) (keep : Bool) (htb : top ≤ bot) (x : Scr × List (List C)) (hb : bot < x.2.length) : ∀ k y, top ≤ y → y + k ≤ bot → (iterN (rUp n top bot keep) k x).2.getD y [] = x.2.getD (y + k) []
  | 0, y, _, _ => rfl
  | k + 1, y, h1, h2 => by
    have ih := iterUp_in n top bot keep htb x hb k (y + 1) (by omega) (by omega)
    have hl := iterUp_len n top bot keep htb x hb k
    show (rUp n top bot keep (iterN (rUp n top bot keep) k x)).2.getD y [] = _
    rw [rUp_rows, replR_up _ _ _ _ _ htb (by omega), if_neg (by omega), if_pos (by omega), ih]
    congr 1
    omega
/-- What moved down k times. -/
theorem iterDn_in (n top bot : Nat) (htb : top ≤ bot) (x : Scr × List (List C)) (hb : bot < x.2.length) : ∀ k y, top + k ≤ y → y ≤ bot → (iterN (rDn n top bot) k x).2.getD y [] = x.2.getD (y - k) []
  | 0, y, _, _ => rfl
  | k + 1, y, h1, h2 => by
    have ih := iterDn_in n top bot htb x hb k (y - 1) (by omega) (by omega)
    have hl := iterDn_len n top bot htb x hb k
    show (rDn n top bot (iterN (rDn n top bot) k x)).2.getD y [] = _
    rw [rDn_rows, replR_down _ _ _ _ _ htb (by omega), if_neg (by omega), if_neg (by omega), if_pos (by omega), ih]
    congr 1
    omega
/-- The last fifty. -/
def last50 (l : List (List C)) : List (List C) := l.drop (l.length - 50)
theorem last50_len (l : List (List C)) : (last50 l).length ≤ 50 := by
  unfold last50
  rw [List.length_drop]
  omega
theorem last50_short (l : List (List C)) (h : l.length ≤ 50) : last50 l = l := by
  unfold last50
  rw [show l.length - 50 = 0 by omega]
  rfl
theorem keepG_last (g : List (List C)) (row : List C) (h : g.length ≤ 50) : keepG g row = last50 (g ++ [row]) := by
  unfold keepG
  by_cases hl : g.length < 50
  · rw [if_pos hl, last50_short _ (by simp; omega)]
  · rw [if_neg hl]
    unfold last50
    rw [List.length_append, List.length_singleton, show g.length + 1 - 50 = 1 by omega, List.eraseIdx_zero, List.drop_one]
theorem last50_push (l : List (List C)) (row : List C) : last50 (last50 l ++ [row]) = last50 (l ++ [row]) := by
  by_cases h : l.length ≤ 50
  · rw [last50_short l h]
  · have e : (last50 l).length = 50 := by unfold last50; rw [List.length_drop]; omega
    have e1 : last50 (last50 l ++ [row]) = (last50 l ++ [row]).drop 1 := by
      show (last50 l ++ [row]).drop ((last50 l ++ [row]).length - 50) = _
      rw [List.length_append, List.length_singleton, e]
    rw [e1]
    unfold last50
    rw [List.drop_append_of_le_length (by rw [List.length_drop]; omega), List.drop_drop, List.length_append, List.length_singleton, List.drop_append_of_le_length (by omega)]
    congr 2
    omega
/-- What is gone behind k rows that moved up from the first one on. -/
theorem iterUp_gone (n bot : Nat) (x : Scr × List (List C)) (hb : bot < x.2.length) (hg : x.1.gone.length ≤ 50) : ∀ k, k ≤ bot + 1 → (iterN (rUp n 0 bot true) k x).1.gone = last50 (x.1.gone ++ x.2.take k)
  | 0, _ => by
    show x.1.gone = _
    rw [List.take_zero, List.append_nil, last50_short _ hg]
  | k + 1, hk => by
    have ih := iterUp_gone n bot x hb hg k (by omega)
    have hl := iterUp_len n 0 bot true (by omega) x hb k
    have hr : (iterN (rUp n 0 bot true) k x).2.getD 0 [] = x.2.getD k [] := by
      have := iterUp_in n 0 bot true (by omega) x hb k 0 (Nat.le_refl _) (by omega)
      rwa [Nat.zero_add] at this
    show (rUp n 0 bot true (iterN (rUp n 0 bot true) k x)).1.gone = _
    have e : (rUp n 0 bot true (iterN (rUp n 0 bot true) k x)).1.gone = keepG (iterN (rUp n 0 bot true) k x).1.gone ((iterN (rUp n 0 bot true) k x).2.getD 0 []) := by
      unfold rUp
      rw [if_pos ⟨rfl, rfl⟩]
    have e2 : x.2.take (k + 1) = x.2.take k ++ [x.2.getD k []] := by
      have hk' : k < x.2.length := by omega
      rw [List.take_succ_eq_append_getElem hk']
      simp [List.getD, hk']
    rw [e, hr, keepG_last _ _ (by rw [ih]; exact last50_len _), ih, last50_push, e2, List.append_assoc]
end Put
end Go.Proofs.YthokeflechajlaaDoor
