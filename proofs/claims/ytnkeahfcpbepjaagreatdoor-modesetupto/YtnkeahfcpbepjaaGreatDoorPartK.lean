/- The reference's desk: a screen under way; Take, Give. -/
import Derived.Test.YtnkeahfcpbepjaaGreatDoorPartJ
import Derived.Test.YtnkeahfcpbepjaaGreatDoorPartH
import Derived.Test.YtnkeahfcpbepjaaGreatDoorPartI
import Derived.Deep.RegionHeld3
import Derived.BigRegion
import Derived.BigQuiet
import Derived.Test.YtnkeahfcpbepjaaGreatDoorPartD
import Derived.Test.YtnkeahfcpbepjaaGreatDoorPartE
import Derived.Test.YtnkeahfcpbepjaaGreatDoorPartF
namespace Go.Proofs.YtnkeahfcpbepjaaGreatDoor
open Go.ChangeShapes Go.WideShapes Go.ChangeAt Go.RowKit
namespace Put
open Grd (C SliceAt CellsAt gridErr z0 nilV rowsL RowsAt RowB flat)
/-- A desk in memory: its block p, its rows in blocks of their own (gs), which nothing else speaks of. -/
structure DkA (W : World) (N p : Nat) (s : Scr) (rows : List (List C)) (cv tv gv rv : Value) (gvs vs : List Value) (gs : List Nat) : Prop where
  blk : W.heap[p]? = some (.cells (shA s cv tv gv rv) 50 (0, 0))
  lo : N ≤ p
  cvs : ∃ a n c, cv = .slice a n c
  tabs : W.ownsRow N 4 1 tv s.tabs.length (s.tabs.map Value.bool)
  gone : GoneV W N gv s.gone.length gvs
  gin : RowsIn W N gvs s.gone
  gof : ∀ i, i < s.gone.length → s.gone.getD i [] ≠ [] → ∀ g, blkOf (gvs.getD i nilV) = some g → g ∉ gs
  rws : W.ownsRow N 22 1 rv rows.length vs
  rin : RowsAt W N vs gs rows
  two : ∀ k, rv.ownBlock = some k → gv.ownBlock ≠ some k
def DkAt (W : World) (N p : Nat) (s : Scr) (rows : List (List C)) : Prop := ∃ cv tv gv rv gvs vs gs, DkA W N p s rows cv tv gv rv gvs vs gs
theorem DkA.next {W W' : World} {N p : Nat} {s : Scr} {rows : List (List C)} {cv tv gv rv : Value} {gvs vs : List Value} {gs : List Nat} (h : DkA W N p s rows cv tv gv rv gvs vs gs) (hb : Below W.heap.size W W') : DkA W' N p s rows cv tv gv rv gvs vs gs :=
  ⟨Grd.carry h.blk hb, h.lo, h.cvs, own_next h.tabs hb, h.gone.next hb, h.gin.keep (Kept.of_below hb), h.gof, own_next h.rws hb, h.rin.below hb, h.two⟩
theorem DkAt.next {W W' : World} {N p : Nat} {s : Scr} {rows : List (List C)} (h : DkAt W N p s rows) (hb : Below W.heap.size W W') : DkAt W' N p s rows := by
  obtain ⟨cv, tv, gv, rv, gvs, vs, gs, h⟩ := h
  exact ⟨_, _, _, _, _, _, _, h.next hb⟩
theorem DkAt.lo {W : World} {N p : Nat} {s : Scr} {rows : List (List C)} (h : DkAt W N p s rows) : N ≤ p := by
  obtain ⟨cv, tv, gv, rv, gvs, vs, gs, h⟩ := h
  exact h.lo
theorem rowB_type {W : World} {g : Nat} {v : Value} {row : List C} (h : RowB W g v row) : ∃ A, W.heap[g]? = some (.cells A 91 (0, 0)) := by
  obtain ⟨cap, rest, -, -, -, h⟩ := h
  exact ⟨_, h⟩
/-- A block that is none of the rows' keeps its number. -/
theorem RowsAt.apart {W W' : World} {N p : Nat} {vs : List Value} {gs : List Nat} {rows : List (List C)} {A : Array Value} {t : TypeId} {f : Nat × Nat} (h : RowsAt W N vs gs rows) (hp : W.heap[p]? = some (.cells A t f)) (ht : t ≠ 91) (ho : ∀ k, k ≠ p → W'.heap[k]? = W.heap[k]?) : RowsAt W' N vs gs rows :=
  h.kept fun i hi => ho _ fun e => by
    obtain ⟨B, hB⟩ := rowB_type (h.2.2.2 i hi).2
    rw [e, hp] at hB
    injection hB with hB
    injection hB with _ hB _
    exact ht hB
theorem own_apart {W W' : World} {N p : Nat} {e t : TypeId} {u : Value} {n : Nat} {xs : List Value} {A : Array Value} {f : Nat × Nat} (h : W.ownsRow N e 1 u n xs) (hp : W.heap[p]? = some (.cells A t f)) (ht : t ≠ e) (ho : ∀ k, k ≠ p → W'.heap[k]? = W.heap[k]?) : W'.ownsRow N e 1 u n xs :=
  owns_kept h fun g hg => ho g fun eq => by
    obtain ⟨-, B, f', hB⟩ := owns_block h g hg
    rw [eq, hp] at hB
    injection hB with hB
    injection hB with _ hB _
    exact ht hB
theorem Kept.apart {W W' : World} {N p : Nat} {t : TypeId} {A : Array Value} {f : Nat × Nat} (hp : W.heap[p]? = some (.cells A t f)) (ht : t ≠ 91) (hN : N ≤ p) (ho : ∀ k, k ≠ p → W'.heap[k]? = W.heap[k]?) : Kept N W W' := fun k _ hS => ho k fun e => by
  subst e
  rcases hS with hS | ⟨B, f', hS⟩
  · omega
  · rw [hp] at hS
    injection hS with hS
    injection hS with _ hS _
    exact ht hS
/-- Other words in the desk's own block, but for the tabs, the rows and what is gone. -/
theorem DkA.put {W W' : World} {N p : Nat} {s s' : Scr} {rows : List (List C)} {cv tv gv rv : Value} {gvs vs : List Value} {gs : List Nat} (h : DkA W N p s rows cv tv gv rv gvs vs gs)
    (hp : W'.heap[p]? = some (.cells (shA s' cv tv gv rv) 50 (0, 0))) (ho : ∀ k, k ≠ p → W'.heap[k]? = W.heap[k]?) (htabs : s'.tabs = s.tabs) (hgone : s'.gone = s.gone) : DkA W' N p s' rows cv tv gv rv gvs vs gs := by
  refine ⟨hp, h.lo, h.cvs, ?_, ?_, ?_, ?_, own_apart h.rws h.blk (by decide) ho, RowsAt.apart h.rin h.blk (by decide) ho, h.two⟩
  · rw [htabs]
    exact own_apart h.tabs h.blk (by decide) ho
  · rw [hgone]
    exact h.gone.apart h.blk (by decide) ho
  · rw [hgone]
    exact h.gin.keep (Kept.apart h.blk (by decide) h.lo ho)
  · rw [hgone]
    exact h.gof
theorem DkAt.set {W : World} {N p : Nat} {s s' : Scr} {rows : List (List C)} (h : DkAt W N p s rows) (i : Nat) (v : Value) (e : ∀ cv tv gv rv, (shA s cv tv gv rv).setIfInBounds i v = shA s' cv tv gv rv) (h1 : s'.tabs = s.tabs) (h2 : s'.gone = s.gone) : DkAt (W.setCell ⟨p, i, none⟩ v) N p s' rows := by
  obtain ⟨cv, tv, gv, rv, gvs, vs, gs, h⟩ := h
  exact ⟨_, _, _, _, _, _, _, h.put (store_at h.blk (e _ _ _ _)) (fun k hk => store_off hk) h1 h2⟩
/-- The words of a desk that stand for themselves. -/
theorem DkAt.words {W : World} {N p : Nat} {s : Scr} {rows : List (List C)} (h : DkAt W N p s rows) :
    W.cell? ⟨p, 0, none⟩ = some (.int .i64 s.w) ∧ W.cell? ⟨p, 1, none⟩ = some (.int .i64 s.h) ∧ W.cell? ⟨p, 3, none⟩ = some (.int .i64 s.x) ∧ W.cell? ⟨p, 4, none⟩ = some (.int .i64 s.y) ∧ W.cell? ⟨p, 5, none⟩ = some (.bool s.late) ∧ W.cell? ⟨p, 9, none⟩ = some (.int .i64 s.top) ∧ W.cell? ⟨p, 10, none⟩ = some (.int .i64 s.bot) ∧ W.cell? ⟨p, 11, none⟩ = some (.int .i64 s.modes) ∧ W.cell? ⟨p, 19, none⟩ = some (.int .i32 s.last) ∧ ∀ i, W.frozen? ⟨p, i, none⟩ = false := by
  obtain ⟨cv, tv, gv, rv, gvs, vs, gs, h⟩ := h
  obtain ⟨⟨c0, c1, -, c3, c4, c5, -, -, -, c9, c10⟩, ⟨c11, -, -, -, -, -, -, -, c19, -⟩, f⟩ := sh_cells h.blk
  exact ⟨c0, c1, c3, c4, c5, c9, c10, c11, c19, f⟩
theorem buildD_run (W : World) (s : Scr) (cv tv gv : Value) (a : Option Addr) (n c : Nat) : (Instr.build 50 #[(0, .agg (scrA s cv tv gv)), (1, .slice a n c)]).run Tryz.prog W = .ok (.agg (shA s cv tv gv (.slice a n c))) W := by
  kernel_rfl
theorem buildD_scr (a : Act) (dst : Option Tmp) (x y : Operand) (ty : TypeId) (pos : String) (after : Array Edge) (guard : Option (Nat × Bool)) (W : World) (h : IsScrV (a.eval x)) (hy : IsSliceV (a.eval y)) :
    (execOp a.eval { dst, op := .build 50 #[(0, x), (1, y)], type := ty, pos, after, guard }).run Tryz.prog W = .ok (.value (.agg (sheetOf (a.eval x) (a.eval y)))) W := by
  obtain ⟨s, cv, tv, gv, hx⟩ := h
  obtain ⟨p, n, c, hy⟩ := hy
  unfold execOp
  simp only [List.map_toArray, List.map_cons, List.map_nil, hx, hy, sheetOf_scr, Sem.run_bind, buildD_run, Sem.run_pure, Result.andThen_ok]
theorem rowsAt_ne {W : World} {N : Nat} {vs : List Value} {gs : List Nat} {rows : List (List C)} (h : RowsAt W N vs gs rows) (g : Nat) (hg : g ∈ gs) : N ≤ g ∧ g < W.heap.size := by
  obtain ⟨i, hi, rfl⟩ := List.mem_iff_getElem.1 hg
  have hi' : i < rows.length := by rw [← h.2.1]; exact hi
  have e : gs.getD i 0 = gs[i] := by simp [List.getD, hi]
  have h1 := (h.2.2.2 i hi').1
  have h2 := h.lt i hi'
  rw [e] at h1 h2
  exact ⟨h1, h2⟩
section
attribute [local go_sem ↓] load_scr buildD_scr
attribute [local go_sem] isScrV isSliceV sheetOf_scr
set_option maxHeartbeats 4000000 in
theorem take_any (n hh : Nat) (s : Scr) (cv tv gv : Value) (w0 w : World) (hV : ScrV w0 s cv tv gv) (hb0 : Below w0.heap.size w0 w) (hF : Fits s) (hw : s.w = n) (hh' : s.h = hh) (hz : gridErr n hh s.cs = 0) :
    Calls Tryz.prog 67 #[.agg (scrA s cv tv gv)] w fun e W' => ∃ p, e = .returned (.pointer (some ⟨p, 0, none⟩)) ∧ DkAt W' w.heap.size p s (rowsL n s.cs hh) ∧ Below w.heap.size w W' := by
  have hzz := (Grd.gridErr_zero n hh s.cs).1 hz
  obtain ⟨hsz, hL, -⟩ := hzz
  have hsz' : 1 ≤ (n : Int) ∧ (n : Int) ≤ 120 ∧ 1 ≤ (hh : Int) ∧ (hh : Int) ≤ 60 := by simpa [Grd.isSize] using hsz
  obtain ⟨w1, w2, w3, w4⟩ := hsz'
  have hne : s.cs ≠ [] := by
    intro e
    rw [e] at hL
    have : 1 ≤ n * hh := Nat.mul_pos (by omega) (by omega)
    simp at hL
    omega
  rcases hV.c with ⟨he, -⟩ | ⟨-, b, o, cap, rfl, hc1, hc2, hC⟩
  · exact absurd he hne
  have HL : Hid (s.cs.length = n * hh) := hL
  have HC : Hid (CellsAt w0 b o s.cs) := hC
  have HB00 : Hid (Below w0.heap.size w0 w) := hb0
  have HW : Hid (s.w = n ∧ s.h = hh) := ⟨hw, hh'⟩
  have HSZ : Hid (Grd.isSize n hh = true) := hsz
  clear hL hC hz hsz hne hw hh'
  have x0 := heap_alloc_new w (.cells (scrA s (.slice (some ⟨b, o, none⟩) s.cs.length cap) tv gv) 32)
  have kb : Below w.heap.size w (w.alloc (.cells (scrA s (.slice (some ⟨b, o, none⟩) s.cs.length cap) tv gv) 32)) := (Below.refl _ _).alloc (Nat.le_refl _) _
  have HX0 : Hid _ := x0
  have HB0 : Hid _ := kb
  have HV : Hid (ScrV w0 s _ tv gv) := hV
  have HF : Hid (Fits s) := hF
  clear x0 kb hV hF hb0
  have hl0 : w.heap.size < (w.alloc (.cells (scrA s (.slice (some ⟨b, o, none⟩) s.cs.length cap) tv gv) 32)).heap.size := by simp
  go_enter Tryz.func67, Tryz.ntmps67
  go_upto_region 1 with fail
  generalize w.alloc (.cells (scrA s (.slice (some ⟨b, o, none⟩) s.cs.length cap) tv gv) 32) = W1 at *
  go_cut [3] from 3 to 9 (fun c wx => ∃ p rv vs gs, c = .pointer (some ⟨p, 0, none⟩) ∧ w.heap.size ≤ p ∧ wx.heap[p]? = some (.cells (shA s (.slice (some ⟨b, o, none⟩) s.cs.length cap) tv gv rv) 50 (0, 0)) ∧ wx.ownsRow w.heap.size 22 1 rv hh vs ∧ RowsAt wx w.heap.size vs gs (rowsL n s.cs hh) ∧ Below W1.heap.size W1 wx)
  case first =>
    have SK : Hid (∀ w', Below W1.heap.size W1 w' → Below W1.heap.size W1 w' ∧ ScrPtr w' (.pointer (some ⟨w.heap.size, 0, none⟩)) ∧ blkAt w' (.pointer (some ⟨w.heap.size, 0, none⟩)) = scrA s (.slice (some ⟨b, o, none⟩) s.cs.length cap) tv gv ∧ w'.cell? ⟨w.heap.size, 0, none⟩ = some (.int .i64 (n : Int)) ∧ w'.cell? ⟨w.heap.size, 1, none⟩ = some (.int .i64 (hh : Int)) ∧ w'.cell? ⟨w.heap.size, 2, none⟩ = some (.slice (some ⟨b, o, none⟩) s.cs.length cap)) := fun w' hb => by
      have hx := Grd.carry HX0.out hb
      have q := scr_cells hx
      rw [HW.out.1, HW.out.2] at q
      exact ⟨hb, (scrPtr_of hx).1, (scrPtr_of hx).2, q.1.1, q.1.2.1, q.1.2.2.1⟩
    have b0 : Below W1.heap.size W1 W1.drew := (Below.refl _ _).drew
    have HC1 : Hid (s.cs.length ≤ cap) := hc1
    have hh1 : 0 < hh := by omega
    clear hc1
    go_region_held3 (fun w' => Below W1.heap.size W1 w' ∧ ScrPtr w' (.pointer (some ⟨w.heap.size, 0, none⟩)) ∧ blkAt w' (.pointer (some ⟨w.heap.size, 0, none⟩)) = scrA s (.slice (some ⟨b, o, none⟩) s.cs.length cap) tv gv ∧ w'.cell? ⟨w.heap.size, 0, none⟩ = some (.int .i64 (n : Int)) ∧ w'.cell? ⟨w.heap.size, 1, none⟩ = some (.int .i64 (hh : Int)) ∧ w'.cell? ⟨w.heap.size, 2, none⟩ = some (.slice (some ⟨b, o, none⟩) s.cs.length cap))
      (first | exact SK.out _ (c1.alloc c1.size _) | exact SK.out _ c1 | exact SK.out _ b0)
      (first | (go_at_call 125; refine (Grd.rows_any n hh b o cap s.cs W1.drew (HC.out.below (HB00.out.trans ((HB0.out.trans (b0.mono HB0.out.size)).mono HB00.out.size))) HSZ.out HL.out HC1.out).mono ?_; rintro e V1 ⟨v, vs, gs, rfl, ho, hra, b1⟩; have c1 := b0.trans (b1.mono b0.size); have HO : Hid (V1.ownsRow W1.heap.size 22 1 v hh vs) := ho; have HRA : Hid (RowsAt V1 W1.heap.size vs gs (rowsL n s.cs hh)) := hra; obtain ⟨g, cp, rfl⟩ := own_shape ho hh1; clear b1 ho hra))
    go_wp2_with fail
    go_meet
    refine ⟨V1.heap.size, _, vs, gs, rfl, Nat.le_trans (Nat.le_of_lt hl0) c1.size, heap_alloc_new _ _, Grd.ownsRow_mono (World.ownsRow.alloc HO.out _) (by omega), ?_, c1.alloc c1.size _⟩
    have h1 := HRA.out.below ((Below.refl V1.heap.size V1).alloc (Nat.le_refl _) (.cells (shA s (.slice (some ⟨b, o, none⟩) s.cs.length cap) tv gv (.slice (some ⟨g, 0, none⟩) hh cp)) 50))
    exact ⟨h1.1, h1.2.1, h1.2.2.1, fun i hi => ⟨by have := (h1.2.2.2 i hi).1; omega, (h1.2.2.2 i hi).2⟩⟩
  case rest =>
    obtain ⟨p, rv, vs, gs, rfl, hp, hblk, hown, hra, hb⟩ := hcut
    have hne : w.heap.size ≠ p := by
      intro e
      rw [← e, Grd.carry HX0.out hb] at hblk
      injection hblk with hblk
      injection hblk with _ hblk _
      exact absurd hblk (by decide)
    have HX1 : Hid _ := Grd.carry HX0.out hb
    have HP1 : Hid _ := hblk
    have HO1 : Hid _ := hown
    have HR1 : Hid (RowsAt wc w.heap.size vs gs (rowsL n s.cs hh)) := hra
    have HB1 : Hid (Below w.heap.size w wc) := HB0.out.trans (hb.mono HB0.out.size)
    have hlow : ∀ {V : World}, Below w.heap.size w V → Below w0.heap.size w0 V := fun h => HB00.out.trans (h.mono HB00.out.size)
    have HLOW : Hid (∀ {V : World}, Below w.heap.size w V → Below w0.heap.size w0 V) := hlow
    clear hblk hown hb hra hlow
    obtain ⟨-, ⟨-, c12, -⟩, -⟩ := scr_cells HX1.out
    go_wp2_with fail
    refine (cloneBools_any tv s.tabs wc (BoolsV.next HV.out.t (HLOW.out HB1.out)) HF.out.bl).mono ?_
    rintro e W2 ⟨tv', rfl, ho2, b2⟩
    obtain ⟨ta, tc, rfl⟩ := own_slice ho2
    have hp2 := Grd.carry HP1.out b2
    have f12 := (sh_cells hp2).2.2 12
    have c12' := (sh_cells hp2).2.1.2.1
    clear c12
    have HP2 : Hid _ := store_at (i := 12) (v := .slice ta s.tabs.length tc) hp2 rfl
    have HX2 : Hid _ := (store_off (i := 12) (v := .slice ta s.tabs.length tc) hne).trans (Grd.carry HX1.out b2)
    have HT2 : Hid _ := own_off (i := 12) (v := .slice ta s.tabs.length tc) ho2 hp2 (by decide)
    have HO2 : Hid _ := own_off (i := 12) (v := .slice ta s.tabs.length tc) (own_next HO1.out b2) hp2 (by decide)
    have HR2 : Hid (RowsAt (W2.setCell ⟨p, 12, none⟩ (.slice ta s.tabs.length tc)) w.heap.size vs gs (rowsL n s.cs hh)) := RowsAt.apart (HR1.out.below b2) hp2 (by decide) fun k hk => store_off hk
    have HB2 : Hid (Below w.heap.size w (W2.setCell ⟨p, 12, none⟩ (.slice ta s.tabs.length tc))) := (HB1.out.trans (b2.mono HB1.out.size)).setCell hp _
    have c21 := (scr_cells (Grd.carry HX1.out b2)).2.1.2.2.2.2.2.2.2.2.2.2
    clear ho2 b2 hp2
    go_wp2_with fail
    refine (cloneRows_any gv s.gone _ (RowsV.next HV.out.g (HLOW.out HB2.out)) HF.out.gl).mono ?_
    rintro e W6 ⟨gv', gvs, rfl, ho6, -, hr6, b6⟩
    have HR6 : Hid (RowsL w0 gvs s.gone) := hr6 w0 (HLOW.out HB2.out) HV.out.g
    obtain ⟨ga, gc, rfl⟩ := own_slice ho6
    have hp6 := Grd.carry HP2.out b6
    have f21 := (sh_cells hp6).2.2 21
    have c21' := (sh_cells hp6).2.1.2.2.2.2.2.2.2.2.2.2.1
    have HP6 : Hid _ := store_at (i := 21) (v := .slice ga s.gone.length gc) hp6 rfl
    have HT6 : Hid _ := own_off (i := 21) (v := .slice ga s.gone.length gc) (own_next HT2.out b6) hp6 (by decide)
    have HO6 : Hid _ := own_off (i := 21) (v := .slice ga s.gone.length gc) (own_next HO2.out b6) hp6 (by decide)
    have HG6 : Hid _ := own_off (i := 21) (v := .slice ga s.gone.length gc) ho6 hp6 (by decide)
    have HRA6 : Hid (RowsAt (W6.setCell ⟨p, 21, none⟩ (.slice ga s.gone.length gc)) w.heap.size vs gs (rowsL n s.cs hh)) := RowsAt.apart (HR2.out.below b6) hp6 (by decide) fun k hk => store_off hk
    have HB6 : Hid (Below w.heap.size w (W6.setCell ⟨p, 21, none⟩ (.slice ga s.gone.length gc))) := (HB2.out.trans (b6.mono HB2.out.size)).setCell hp _
    have HTW : Hid (∀ k, rv.ownBlock = some k → (Value.slice ga s.gone.length gc).ownBlock ≠ some k) := fun k h1 h2 => by
      obtain ⟨-, A, f, hA⟩ := owns_block HO2.out k h1
      obtain ⟨hB, -⟩ := owns_block ho6 k h2
      have := heap_lt hA
      omega
    clear ho6 b6 hp6 c21 c12' f12 hr6
    go_wp2_with fail
    go_ret
    have hg0 : ∀ i, i < s.gone.length → s.gone.getD i [] ≠ [] → ∀ g, blkOf (gvs.getD i nilV) = some g → g < w0.heap.size := fun i hi hne' g hg => by
      rcases HR6.out.2 i hi with ⟨he, -⟩ | ⟨-, b', o', c', hv, -, -, hC'⟩
      · exact absurd he hne'
      · rw [hv] at hg
        have e : b' = g := by simpa [blkOf] using hg
        rw [← e]
        exact lt_of_cells hC' hne'
    have hM := HB00.out.size
    have hM1 := HB1.out.size
    have hM2 := HB2.out.size
    refine ⟨p, rfl, ⟨_, _, _, rv, gvs, vs, gs, HP6.out, hp, ⟨_, _, _, rfl⟩, Grd.ownsRow_mono HT6.out hM1, GoneV.of (Grd.ownsRow_mono HG6.out hM2), ?_, fun i hi hne' g hg hm => ?_, ?_, HRA6.out, HTW.out⟩, HB6.out⟩
    · have h1 := (RowsIn.of HR6.out rfl).keep (Kept.of_below (HLOW.out HB6.out))
      refine ⟨h1.1, fun i hi => ?_⟩
      rcases h1.2 i hi with h | ⟨h2, b', o', c', h3, h4, h5, h6, h7⟩
      · exact .inl h
      · exact .inr ⟨h2, b', o', c', h3, h4, h5, h6, h7.imp (fun h => by omega) id⟩
    · have h1 := hg0 i hi hne' g hg
      have h2 := (rowsAt_ne HRA6.out g hm).1
      omega
    · rw [Grd.rowsL_len]
      exact HO6.out
end
end Put
end Go.Proofs.YtnkeahfcpbepjaaGreatDoor

/- (*sheet.Sheet).alter: a row is made anew. -/
namespace Go.Proofs.YtnkeahfcpbepjaaGreatDoor
open Go.ChangeShapes Go.WideShapes Go.ChangeAt Go.RowKit
namespace Put
open Grd (C SliceAt CellsAt gridErr z0 nilV flat rowsL OwnG RowB)
/-- Blocks of other types than those that a sheet writes to are kept. -/
def Other (t : TypeId) : Prop := t ≠ 64 ∧ t ≠ 4 ∧ t ≠ 22
def OtherO (o : Obj) : Prop := ∀ (A : Array Value) (t : TypeId) (f : Nat × Nat), o = .cells A t f → Other t
def Framed (W W' : World) : Prop := ∀ (k : Nat) (o : Obj), W.heap[k]? = some o → OtherO o → W'.heap[k]? = some o
theorem Framed.refl (W : World) : Framed W W := fun _ _ h _ => h
theorem Framed.trans {a b c : World} (h : Framed a b) (k : Framed b c) : Framed a c := fun i o hi ho => k i o (h i o hi ho) ho
theorem Framed.of_below {W W' : World} (h : Below W.heap.size W W') : Framed W W' := fun k _ hk _ => (h.block k (heap_lt hk)).trans hk
theorem Framed.store {W : World} {p i : Nat} {v : Value} {A : Array Value} {t : TypeId} (hp : W.heap[p]? = some (.cells A t (0, 0))) (ht : ¬ Other t) : Framed W (W.setCell ⟨p, i, none⟩ v) := fun k o hk ho => by
  have hne : k ≠ p := by
    intro e
    rw [e, hp] at hk
    injection hk with hk
    exact ht (ho A t (0, 0) hk.symm)
  exact (store_off hne).trans hk
theorem other_cells {A : Array Value} {t : TypeId} {f : Nat × Nat} (h : Other t) : OtherO (.cells A t f) := fun B u g e => by
  injection e with _ e _
  rw [← e]
  exact h
theorem not_other_sheet : ¬ Other 64 := fun h => h.1 rfl
theorem not_other_rows : ¬ Other 22 := fun h => h.2.2 rfl
theorem not_other_bool : ¬ Other 4 := fun h => h.2.1 rfl
theorem Framed.cell {W W' : World} (h : Framed W W') {k i : Nat} {A : Array Value} {t : TypeId} (hk : W.heap[k]? = some (.cells A t (0, 0))) (ho : Other t) : W'.cell? ⟨k, i, none⟩ = W.cell? ⟨k, i, none⟩ := by
  have h1 := h k _ hk (other_cells ho)
  simp only [World.cell?, h1, hk]
/-- What a sheet is behind a call that changes it. -/
def Ran (W : World) (M N p : Nat) (s' : Scr) (rows' : List (List C)) (e : Ending) (W' : World) : Prop := e = .returned (.tuple #[]) ∧ ShAt 64 W' M N p s' rows' ∧ Below N W W' ∧ Framed W W'
theorem own_rowB {W : World} {base : Nat} {v : Value} {row : List C} (h : OwnG W base v row) : ∃ g, base ≤ g ∧ RowB W g v row := by
  obtain ⟨g, cap, rest, ⟨t, rfl⟩, hv, hg, h1, h2, h3⟩ := h
  exact ⟨g, hg, cap, rest, hv, h1, h2, h3⟩
theorem ShA.storeRow {V : World} {M N p : Nat} {s : Scr} {rows : List (List C)} {cv tv gv rv : Value} {gvs vs : List Value} (h : ShA 64 V M N p s rows cv tv gv rv gvs vs) {rb rc y : Nat} (hrv : rv = .slice (some ⟨rb, 0, none⟩) rows.length rc) {v : Value} {row' : List C} (hr : RowIn V M v row') : ShA 64 (V.setCell ⟨rb, y, none⟩ v) M N p s (rows.set y row') cv tv gv rv gvs (vs.set y v) := by
  obtain ⟨hlo, A, f, hA⟩ := owns_block h.rws rb (by rw [hrv]; rfl)
  have hA0 : ∃ A, V.heap[rb]? = some (.cells A 22 (0, 0)) := by
    have h1 := h.rws
    rw [hrv] at h1
    obtain ⟨-, ⟨h1, -⟩ | ⟨g', cap, cur, hv, -, hh, -⟩⟩ := h1
    · injection h1 with h1
      cases h1
    · injection hv with hv1 _ _
      injection hv1 with hv1
      injection hv1 with hv1
      subst hv1
      exact ⟨cur, hh⟩
  obtain ⟨B, hB⟩ := hA0
  have hne : p ≠ rb := by
    intro e
    rw [← e, h.blk] at hB
    injection hB with hB
    injection hB with _ hB _
    exact absurd hB (by decide)
  have hK : Kept M V (V.setCell ⟨rb, y, none⟩ v) := Kept.store hB (by decide) (Nat.le_trans h.ml hlo)
  refine ⟨(store_off hne).trans h.blk, h.lo, h.ml, h.cvs, own_off h.tabs hB (by decide), owns_kept h.gone fun g hg => store_off fun e => h.two rb (by rw [hrv]; rfl) (by rw [hg, e]), h.gin.keep hK, ?_, (h.rin.set y v row' hr).keep hK, h.two⟩
  have h1 := h.rws
  rw [hrv] at h1 ⊢
  rw [List.length_set]
  exact own_set h1
end Put
end Go.Proofs.YtnkeahfcpbepjaaGreatDoor

/- The desk's Give and Go; noScreen. -/
namespace Go.Proofs.YtnkeahfcpbepjaaGreatDoor
open Go.ChangeShapes Go.WideShapes Go.ChangeAt Go.RowKit
namespace Put
open Grd (C SliceAt CellsAt gridErr z0 nilV rowsL RowsAt RowB flat)
theorem zScr_v (W : World) : ScrV W zScr (.slice none 0 0) (.slice none 0 0) (.slice none 0 0) := ⟨.inl ⟨rfl, none, 0, rfl⟩, .inl ⟨rfl, none, 0, rfl⟩, .inl ⟨rfl, none, 0, rfl⟩⟩
theorem zScr_small : Small zScr := ⟨by simp [zScr], by simp [zScr], by simp [zScr], by simp [zScr]⟩
set_option maxHeartbeats 2000000 in
set_option maxRecDepth 100000 in
theorem noScreen_any (cv tv gv : Value) (w : World) (hV : ScrV w zScr cv tv gv) : Calls Tryz.prog 66 #[.agg (scrA zScr cv tv gv)] w fun e w' => e = .returned (.bool true) ∧ Below w.heap.size w w' := by
  have x0 := heap_alloc_new w (.cells (scrA zScr cv tv gv) 32)
  have kb : Below w.heap.size w (w.alloc (.cells (scrA zScr cv tv gv) 32)) := (Below.refl _ _).alloc (Nat.le_refl _) _
  have HX0 : Hid _ := x0
  have HKB : Hid _ := kb
  have HS := sameScreen_any zScr cv tv gv (.slice none 0 0) (.slice none 0 0) (.slice none 0 0) _ (hV.next kb) (zScr_v _) zScr_small
  clear x0 kb hV
  go_enter Tryz.func66, Tryz.ntmps66
  go_wp2_with (refine wpList_load_row rfl 32 (.tmp 1) rfl w.heap.size rfl _ _ _ _ HX0.out Tryz.underlying32 rfl (by kernel_rfl) ?_)
  refine HS.mono ?_
  rintro e W1 ⟨rfl, b1⟩
  have HB1 : Hid (Below w.heap.size w W1) := HKB.out.trans (b1.mono HKB.out.size)
  clear b1 HS
  go_wp2_with fail
  go_ret
  exact ⟨rfl, HB1.out⟩
theorem one3v (a b : Int) (q : Option Addr) (n c : Nat) : (#[.int .i64 a, .int .i64 b, .slice q n c] : Array Value).all (·.oneCell') = true := by simp [Value.oneCell']
set_option maxHeartbeats 4000000 in
set_option maxRecDepth 100000 in
theorem give_any (W : World) (N p : Nat) (s : Scr) (rows : List (List C)) (h : DkAt W N p s rows) (n hh : Nat) (hn : 1 ≤ n) (hn' : n ≤ 120) (hh1 : 1 ≤ hh) (hh' : hh ≤ 60) (hrl : rows.length = hh) (hrn : ∀ i, i < rows.length → (rows.getD i []).length = n) (cs : List C) (hcs : rows.flatten = cs) :
    Calls Tryz.prog 68 #[.pointer (some ⟨p, 0, none⟩)] W fun e W' => ∃ cv' tv' gv', e = .returned (.agg (scrA { s with w := (n : Int), h := (hh : Int), cs := cs } cv' tv' gv')) ∧ ScrV W' { s with w := (n : Int), h := (hh : Int), cs := cs } cv' tv' gv' ∧ Below W.heap.size W W' := by
  obtain ⟨cv, tv, gv, rv, gvs, vs, gs, hS⟩ := h
  obtain ⟨ca, cn, cc, rfl⟩ := hS.cvs
  obtain ⟨ta, tc, rfl⟩ := own_slice hS.tabs
  obtain ⟨ga, gc, rfl⟩ := hS.gone.slice
  have hvl : vs.length = rows.length := hS.rin.1
  obtain ⟨G, rc, rest, rfl, hGN, hrc1, hrc2, hG⟩ := Grd.out_of_own (show W.ownsRow N 22 1 rv vs.length vs by rw [hvl]; exact hS.rws) (by omega)
  have kb : Below W.heap.size W ((W.alloc (.cells #[.int .i64 0, .int .i64 0, .slice none 0 0, .int .i64 0, .int .i64 0, .bool false, .int .i64 0, .int .i64 0, .int .i64 0, .int .i64 0, .int .i64 0, .int .i64 0, .slice none 0 0, .int .i64 0, .int .i64 0, .int .i64 0, .int .i64 0, .int .i64 0, .int .i64 0, .int .i32 0, .string ⟨#[]⟩, .slice none 0 0] 32)).alloc (.cells #[.int .i64 0, .int .i64 0, .slice none 0 0, .int .i64 0, .int .i64 0, .bool false, .int .i64 0, .int .i64 0, .int .i64 0, .int .i64 0, .int .i64 0, .int .i64 0, .slice none 0 0, .int .i64 0, .int .i64 0, .int .i64 0, .int .i64 0, .int .i64 0, .int .i64 0, .int .i32 0, .string ⟨#[]⟩, .slice none 0 0] 32)) := ((Below.refl _ _).alloc (Nat.le_refl _) _).alloc (by simp) _
  have x3 : ((W.alloc (.cells #[.int .i64 0, .int .i64 0, .slice none 0 0, .int .i64 0, .int .i64 0, .bool false, .int .i64 0, .int .i64 0, .int .i64 0, .int .i64 0, .int .i64 0, .int .i64 0, .slice none 0 0, .int .i64 0, .int .i64 0, .int .i64 0, .int .i64 0, .int .i64 0, .int .i64 0, .int .i32 0, .string ⟨#[]⟩, .slice none 0 0] 32)).alloc (.cells #[.int .i64 0, .int .i64 0, .slice none 0 0, .int .i64 0, .int .i64 0, .bool false, .int .i64 0, .int .i64 0, .int .i64 0, .int .i64 0, .int .i64 0, .int .i64 0, .slice none 0 0, .int .i64 0, .int .i64 0, .int .i64 0, .int .i64 0, .int .i64 0, .int .i64 0, .int .i32 0, .string ⟨#[]⟩, .slice none 0 0] 32)).heap[W.heap.size + 1]? = some (.cells #[.int .i64 0, .int .i64 0, .slice none 0 0, .int .i64 0, .int .i64 0, .bool false, .int .i64 0, .int .i64 0, .int .i64 0, .int .i64 0, .int .i64 0, .int .i64 0, .slice none 0 0, .int .i64 0, .int .i64 0, .int .i64 0, .int .i64 0, .int .i64 0, .int .i64 0, .int .i32 0, .string ⟨#[]⟩, .slice none 0 0] 32 (0, 0)) := heap_alloc2_new W _ _
  have HX1 : Hid ((((W.alloc (.cells #[.int .i64 0, .int .i64 0, .slice none 0 0, .int .i64 0, .int .i64 0, .bool false, .int .i64 0, .int .i64 0, .int .i64 0, .int .i64 0, .int .i64 0, .int .i64 0, .slice none 0 0, .int .i64 0, .int .i64 0, .int .i64 0, .int .i64 0, .int .i64 0, .int .i64 0, .int .i32 0, .string ⟨#[]⟩, .slice none 0 0] 32)).alloc (.cells #[.int .i64 0, .int .i64 0, .slice none 0 0, .int .i64 0, .int .i64 0, .bool false, .int .i64 0, .int .i64 0, .int .i64 0, .int .i64 0, .int .i64 0, .int .i64 0, .slice none 0 0, .int .i64 0, .int .i64 0, .int .i64 0, .int .i64 0, .int .i64 0, .int .i64 0, .int .i32 0, .string ⟨#[]⟩, .slice none 0 0] 32)).setRow (W.heap.size + 1) (scrA s (.slice ca cn cc) (.slice ta s.tabs.length tc) (.slice ga s.gone.length gc))).heap[W.heap.size + 1]? = some (.cells (scrA s (.slice ca cn cc) (.slice ta s.tabs.length tc) (.slice ga s.gone.length gc)) 32 (0, 0))) := setRow_heap _ _ _ _ _ _ x3
  have HX0 : Hid ((((W.alloc (.cells #[.int .i64 0, .int .i64 0, .slice none 0 0, .int .i64 0, .int .i64 0, .bool false, .int .i64 0, .int .i64 0, .int .i64 0, .int .i64 0, .int .i64 0, .int .i64 0, .slice none 0 0, .int .i64 0, .int .i64 0, .int .i64 0, .int .i64 0, .int .i64 0, .int .i64 0, .int .i32 0, .string ⟨#[]⟩, .slice none 0 0] 32)).alloc (.cells #[.int .i64 0, .int .i64 0, .slice none 0 0, .int .i64 0, .int .i64 0, .bool false, .int .i64 0, .int .i64 0, .int .i64 0, .int .i64 0, .int .i64 0, .int .i64 0, .slice none 0 0, .int .i64 0, .int .i64 0, .int .i64 0, .int .i64 0, .int .i64 0, .int .i64 0, .int .i32 0, .string ⟨#[]⟩, .slice none 0 0] 32)).setRow (W.heap.size + 1) (scrA s (.slice ca cn cc) (.slice ta s.tabs.length tc) (.slice ga s.gone.length gc))).heap[W.heap.size]? = some (.cells (scrA zScr (.slice none 0 0) (.slice none 0 0) (.slice none 0 0)) 32 (0, 0))) := by
    unfold Hid
    rw [setRow_other _ _ _ _ (by omega), Below.heap_alloc _ _ _ (by simp), heap_alloc_new]
    rfl
  have HB0 : Hid (Below W.heap.size W (((W.alloc (.cells #[.int .i64 0, .int .i64 0, .slice none 0 0, .int .i64 0, .int .i64 0, .bool false, .int .i64 0, .int .i64 0, .int .i64 0, .int .i64 0, .int .i64 0, .int .i64 0, .slice none 0 0, .int .i64 0, .int .i64 0, .int .i64 0, .int .i64 0, .int .i64 0, .int .i64 0, .int .i32 0, .string ⟨#[]⟩, .slice none 0 0] 32)).alloc (.cells #[.int .i64 0, .int .i64 0, .slice none 0 0, .int .i64 0, .int .i64 0, .bool false, .int .i64 0, .int .i64 0, .int .i64 0, .int .i64 0, .int .i64 0, .int .i64 0, .slice none 0 0, .int .i64 0, .int .i64 0, .int .i64 0, .int .i64 0, .int .i64 0, .int .i64 0, .int .i32 0, .string ⟨#[]⟩, .slice none 0 0] 32)).setRow (W.heap.size + 1) (scrA s (.slice ca cn cc) (.slice ta s.tabs.length tc) (.slice ga s.gone.length gc)))) := below_setRow kb (by omega) _
  have HX3 : Hid _ := x3
  have HRG : Hid _ := sh_range hS.blk
  have HS : Hid (DkA W N p s rows _ _ _ _ gvs vs gs) := hS
  have HG : Hid (W.heap[G]? = _) := hG
  clear x3 kb hS hG
  go_enter Tryz.func68, Tryz.ntmps68
  go_upto_region 2 with (first
    | (refine wpList_load_mid rfl 32 (.tmp 6) rfl p 0 rfl (scrA s (.slice ca cn cc) (.slice ta s.tabs.length tc) (.slice ga s.gone.length gc)).toList _ (fun j v hj => cell_stay ((Below.refl _ _).alloc (Nat.le_refl _) _) (HRG.out j v hj)) Tryz.underlying32 rfl (by kernel_rfl) ?_)
    | (refine wpList_store_row rfl 32 (.tmp 3) _ rfl (W.heap.size + 1) (scrA s (.slice ca cn cc) (.slice ta s.tabs.length tc) (.slice ga s.gone.length gc)) rfl rfl _ _ HX3.out (by kernel_rfl) rfl (scr_one _ _ _ _ _ _ _ _ _ _) ?_))
  clear HX3 HRG
  generalize (((W.alloc (.cells #[.int .i64 0, .int .i64 0, .slice none 0 0, .int .i64 0, .int .i64 0, .bool false, .int .i64 0, .int .i64 0, .int .i64 0, .int .i64 0, .int .i64 0, .int .i64 0, .slice none 0 0, .int .i64 0, .int .i64 0, .int .i64 0, .int .i64 0, .int .i64 0, .int .i64 0, .int .i32 0, .string ⟨#[]⟩, .slice none 0 0] 32)).alloc (.cells #[.int .i64 0, .int .i64 0, .slice none 0 0, .int .i64 0, .int .i64 0, .bool false, .int .i64 0, .int .i64 0, .int .i64 0, .int .i64 0, .int .i64 0, .int .i64 0, .slice none 0 0, .int .i64 0, .int .i64 0, .int .i64 0, .int .i64 0, .int .i64 0, .int .i64 0, .int .i32 0, .string ⟨#[]⟩, .slice none 0 0] 32)).setRow (W.heap.size + 1) (scrA s (.slice ca cn cc) (.slice ta s.tabs.length tc) (.slice ga s.gone.length gc))) = X at *
  have hgl1 : W.heap.size + 1 < X.heap.size := heap_lt HX1.out
  have c22 := (sh_cells (Grd.carry HS.out.blk HB0.out)).2.1.2.2.2.2.2.2.2.2.2.2.2
  have HGO := Grd.gridOf_any n hh G rc N vs rest gs rows X hn hn' hh1 hh' (Grd.carry HG.out HB0.out) (HS.out.rin.below HB0.out) hrl hrn
  rw [hcs] at HGO
  have hvh : vs.length = hh := by omega
  rw [hvh] at c22
  clear hvl hvh hrl hrn hcs
  go_wp2_with (first | (go_at_call 127; refine HGO.mono ?_; rintro e V ⟨v, rfl, hv, b1⟩; refine Hid.out ?_))
  unfold Hid
  obtain ⟨g, hg1, hR⟩ := own_rowB hv
  obtain ⟨cap, rst, rfl, hcap1, hcap2, hgh⟩ := hR
  have hA1 := Grd.carry HX1.out b1
  have hA0 := Grd.carry HX0.out b1
  have hgV : W.heap.size + 1 < V.heap.size := heap_lt hA1
  obtain ⟨⟨c0, c1, c2, -⟩, -, fr⟩ := scr_cells hA1
  have HTH : Hid (V.there (W.heap.size + 1) 0 3) := fun j hj => by
    match j, hj with
    | 0, _ => exact ⟨by rw [c0]; rfl, fr _⟩
    | 1, _ => exact ⟨by rw [c1]; rfl, fr _⟩
    | 2, _ => exact ⟨by rw [c2]; rfl, fr _⟩
  have HY1 : Hid ((V.setCells (W.heap.size + 1) 0 [.int .i64 (n : Int), .int .i64 (hh : Int), .slice (some ⟨g, 0, none⟩) cs.length cap]).heap[W.heap.size + 1]? = some (.cells (scrA { s with w := (n : Int), h := (hh : Int), cs := cs } (.slice (some ⟨g, 0, none⟩) cs.length cap) (.slice ta s.tabs.length tc) (.slice ga s.gone.length gc)) 32 (0, 0))) := store_at (store_at (store_at hA1 rfl) rfl) rfl
  have ho : ∀ k, k ≠ W.heap.size + 1 → (V.setCells (W.heap.size + 1) 0 [.int .i64 (n : Int), .int .i64 (hh : Int), .slice (some ⟨g, 0, none⟩) cs.length cap]).heap[k]? = V.heap[k]? := fun k hk => Grd.heap_setCells_ne _ k hk _ _ _
  have HY0 : Hid ((V.setCells (W.heap.size + 1) 0 [.int .i64 (n : Int), .int .i64 (hh : Int), .slice (some ⟨g, 0, none⟩) cs.length cap]).heap[W.heap.size]? = _) := (ho _ (by omega)).trans hA0
  have HYG : Hid ((V.setCells (W.heap.size + 1) 0 [.int .i64 (n : Int), .int .i64 (hh : Int), .slice (some ⟨g, 0, none⟩) cs.length cap]).heap[g]? = _) := (ho _ (by omega)).trans hgh
  have HB3 : Hid (Below W.heap.size W (V.setCells (W.heap.size + 1) 0 [.int .i64 (n : Int), .int .i64 (hh : Int), .slice (some ⟨g, 0, none⟩) cs.length cap])) := Grd.below_cells (by omega) _ _ _ (HB0.out.trans (b1.mono HB0.out.size))
  clear HGO hv b1 hA1 hA0 c0 c1 c2 fr ho hgh c22
  go_wp2_with (refine wpList_store_mid rfl 24 (.tmp 13) (.tmp 12) rfl (W.heap.size + 1) 0 #[.int .i64 (n : Int), .int .i64 (hh : Int), .slice (some ⟨g, 0, none⟩) cs.length cap] rfl rfl HTH.out (by kernel_rfl) (one3v _ _ _ _ _) ?_; refine Hid.out ?_)
  unfold Hid
  generalize (V.setCells (W.heap.size + 1) 0 [.int .i64 (n : Int), .int .i64 (hh : Int), .slice (some ⟨g, 0, none⟩) cs.length cap]) = Y at *
  go_wp2_with (first
    | (refine wpList_load_row rfl 32 (.tmp 3) rfl (W.heap.size + 1) rfl _ _ _ _ HY1.out Tryz.underlying32 rfl (by kernel_rfl) ?_)
    | (refine wpList_store_row rfl 32 (.tmp 2) _ rfl W.heap.size (scrA { s with w := (n : Int), h := (hh : Int), cs := cs } (.slice (some ⟨g, 0, none⟩) cs.length cap) (.slice ta s.tabs.length tc) (.slice ga s.gone.length gc)) rfl rfl _ _ HY0.out (by kernel_rfl) rfl (scr_one _ _ _ _ _ _ _ _ _ _) ?_))
  (try simp only [Exit.inBlock, Exit.then])
  have hbF := below_setRow HB3.out (Nat.le_refl W.heap.size) (scrA { s with w := (n : Int), h := (hh : Int), cs := cs } (.slice (some ⟨g, 0, none⟩) cs.length cap) (.slice ta s.tabs.length tc) (.slice ga s.gone.length gc))
  have hD := HS.out.next hbF
  refine bodyPost_ret (v := .agg (scrA { s with w := (n : Int), h := (hh : Int), cs := cs } (.slice (some ⟨g, 0, none⟩) cs.length cap) (.slice ta s.tabs.length tc) (.slice ga s.gone.length gc))) ?_ rfl ⟨_, _, _, rfl, ⟨?_, own_boolsV hD.tabs, hD.gone.rowsV hD.gin.list⟩, hbF⟩
  · exact results_cell_row rfl _ _ W.heap.size _ _ _ _ rfl (setRow_heap _ _ _ _ _ _ HY0.out) Tryz.underlying32 rfl (by kernel_rfl)
  · refine (rowIn_rowB (N := 0) (g := g) ⟨cap, rst, rfl, hcap1, hcap2, ?_⟩).cells
    rw [setRow_other _ _ _ _ (by omega)]
    exact HYG.out
end Put
end Go.Proofs.YtnkeahfcpbepjaaGreatDoor

/- The desk's Go, often, rowOf. -/
namespace Go.Proofs.YtnkeahfcpbepjaaGreatDoor
open Go.ChangeShapes Go.WideShapes Go.ChangeAt Go.RowKit
namespace Put
open Grd (C SliceAt CellsAt gridErr z0 nilV rowsL RowsAt RowB flat)
theorem below_drewN (W : World) (k : Nat) : Below W.heap.size W (W.drewN k) := ⟨rfl, rfl, rfl, Nat.le_refl _, fun _ _ => rfl⟩
def oft (n : Int) : Int := max 1 (min n 9999)
theorem oft_cnt (n : Int) : oft n = cnt n := by unfold oft cnt withinI; omega
theorem often_any (n : Int) (w : World) : Calls Tryz.prog 92 #[.int .i64 n] w fun e w' => e = .returned (.int .i64 (cnt n)) ∧ w = w' := by
  have h1 := Grd.min2 n 9999
  have h2 := Grd.max2 1 (min n 9999)
  have HE : Hid (max 1 (min n 9999) = cnt n) := oft_cnt n
  go_enter Tryz.func92, Tryz.ntmps92
  go_wp2_with fail
  go_ret
  exact ⟨ret_int HE.out, rfl⟩
/-- A place within the screen. -/
def goS (s : Scr) (x y : Int) : Scr := { s with x := max 0 (min x (s.w - 1)), y := max 0 (min y (s.h - 1)), late := false }
theorem DkAt.three {W : World} {N p : Nat} {s : Scr} {rows : List (List C)} (h : DkAt W N p s rows) (x y : Int) : DkAt (((W.setCell ⟨p, 3, none⟩ (.int .i64 x)).setCell ⟨p, 4, none⟩ (.int .i64 y)).setCell ⟨p, 5, none⟩ (.bool false)) N p { s with x := x, y := y, late := false } rows ∧ Below N W (((W.setCell ⟨p, 3, none⟩ (.int .i64 x)).setCell ⟨p, 4, none⟩ (.int .i64 y)).setCell ⟨p, 5, none⟩ (.bool false)) := by
  have h1 : DkAt (W.setCell ⟨p, 3, none⟩ (.int .i64 x)) N p { s with x := x } rows := h.set 3 _ (fun _ _ _ _ => rfl) rfl rfl
  have h2 : DkAt ((W.setCell ⟨p, 3, none⟩ (.int .i64 x)).setCell ⟨p, 4, none⟩ (.int .i64 y)) N p { s with x := x, y := y } rows := h1.set 4 _ (fun _ _ _ _ => rfl) rfl rfl
  refine ⟨h2.set 5 _ (fun _ _ _ _ => rfl) rfl rfl, (((Below.refl _ _).setCell h.lo _).setCell h.lo _).setCell h.lo _⟩
theorem DkAt.drew {W : World} {N p : Nat} {s : Scr} {rows : List (List C)} (h : DkAt W N p s rows) : DkAt W.drew N p s rows := h.next ((Below.refl _ _).drew)
set_option maxHeartbeats 4000000 in
theorem go_any {N p : Nat} {s : Scr} {rows : List (List C)} (x y : Int) (W : World) (h : DkAt W N p s rows) (w1 : 1 ≤ s.w) (w2 : s.w ≤ 120) (w3 : 1 ≤ s.h) (w4 : s.h ≤ 60) :
    Calls Tryz.prog 91 #[.pointer (some ⟨p, 0, none⟩), .int .i64 x, .int .i64 y] W fun e W' => e = .returned (.tuple #[]) ∧ DkAt W' N p (goS s x y) rows ∧ Below N W W' := by
  obtain ⟨c0, c1, c3, c4, c5, c9, c10, c11, c19, f⟩ := h.words
  have f3 := f 3
  have f4 := f 4
  have f5 := f 5
  have m1 := Grd.min2 x (s.w - 1)
  have m2 := Grd.max2 0 (min x (s.w - 1))
  have m3 := Grd.min2 y (s.h - 1)
  have m4 := Grd.max2 0 (min y (s.h - 1))
  have h3 := h.three (max 0 (min x (s.w - 1))) (max 0 (min y (s.h - 1)))
  have HE : Hid _ := And.intro h3.1.drew h3.2.drew
  clear h h3 c9 c10 c11 c19 f
  go_enter Tryz.func91, Tryz.ntmps91
  go_upto_region 0 with fail
  go_region
  all_goals go_end0
  all_goals exact ⟨rfl, HE.out⟩
theorem has_bits (m : Int) (h0 : 0 ≤ m) (h1 : m ≤ 63) : hasB m 1 = !(bits .and .i64 m 1 == 0) ∧ hasB m 2 = !(bits .and .i64 m 2 == 0) ∧ hasB m 4 = !(bits .and .i64 m 4 == 0) := by
  have key : ∀ k : Fin 64, hasB (k.val : Int) 1 = !(bits .and .i64 (k.val : Int) 1 == 0) ∧ hasB (k.val : Int) 2 = !(bits .and .i64 (k.val : Int) 2 == 0) ∧ hasB (k.val : Int) 4 = !(bits .and .i64 (k.val : Int) 4 == 0) := by decide +kernel
  have h := key ⟨m.toNat, by omega⟩
  have e : ((m.toNat : Nat) : Int) = m := by omega
  simp only [e] at h
  exact h
theorem RightS.modes {s : Scr} {n hh : Nat} (h : RightS s n hh) : 0 ≤ s.modes ∧ s.modes ≤ 63 := by
  have := h.looks
  simp only [looksOk, Bool.and_eq_true, decide_eq_true_eq] at this
  exact this.2.2.1
set_option maxHeartbeats 4000000 in
theorem rowOf_any {N p : Nat} {s : Scr} {rows : List (List C)} (n : Int) (W : World) (h : DkAt W N p s rows) (t0 : 0 ≤ s.top) (t1 : s.top ≤ 60) (hb : hasB s.modes 2 = !(bits .and .i64 s.modes 2 == 0)) :
    Calls Tryz.prog 93 #[.pointer (some ⟨p, 0, none⟩), .int .i64 n] W fun e W' => e = .returned (.int .i64 (if hasB s.modes 2 then min (s.top + (cnt n - 1)) s.bot else cnt n - 1)) ∧ Below W.heap.size W W' := by
  obtain ⟨c0, c1, c3, c4, c5, c9, c10, c11, c19, f⟩ := h.words
  have hc := cnt_range n
  have HO : Hid (∀ W, Calls Tryz.prog 92 #[.int .i64 n] W fun e w' => e = .returned (.int .i64 (cnt n)) ∧ W = w') := fun W => often_any n W
  clear h c0 c1 c3 c4 c5 c19 f
  cases hq : (bits .and .i64 s.modes 2 == 0) with
  | true =>
    rw [hq] at hb
    rw [hb, if_neg (by simp)]
    clear hb
    generalize cnt n = k at *
    go_enter Tryz.func93, Tryz.ntmps93
    go_wp2_with fail
    refine (HO.out _).mono ?_
    rintro e V ⟨rfl, hv⟩
    subst hv
    go_wp2_with fail
    go_ret
    exact ⟨rfl, Below.refl _ _⟩
  | false =>
    rw [hq] at hb
    rw [hb, if_pos (by simp)]
    clear hb
    generalize cnt n = k at *
    have hw1 : IntKind.i64.wrap (s.top + k) = s.top + k := wrap_id _ (by omega) (by omega)
    have hw2 : IntKind.i64.wrap (s.top + k - 1) = s.top + k - 1 := wrap_id _ (by omega) (by omega)
    have HM : Hid (min (s.top + k - 1) s.bot = min (s.top + (k - 1)) s.bot) := by unfold Hid; omega
    go_enter Tryz.func93, Tryz.ntmps93
    go_upto_region 3 with fail
    go_region_held3 (fun w' => w'.cell? ⟨p, 9, none⟩ = some (.int .i64 s.top) ∧ w'.cell? ⟨p, 10, none⟩ = some (.int .i64 s.bot)) (go_keep) (first | (go_at_call 92; refine (HO.out _).mono ?_; rintro e V ⟨rfl, hv⟩; subst hv))
    all_goals go_wp2_with fail
    all_goals go_ret
    all_goals exact ⟨ret_int HM.out, (Below.refl _ _).drew⟩
end Put
end Go.Proofs.YtnkeahfcpbepjaaGreatDoor

/- The walk of the reference's CheckGrid. -/
namespace Go.Proofs.YtnkeahfcpbepjaaGreatDoor
open Go.ChangeShapes Go.WideShapes Go.ChangeAt Go.RowKit
namespace Grd
open Txt (wd)
open Sty (isSt)
theorem isStyle_to (f b x : Int) (v : Bool) (h : isSt (f, b, x) = v) (w : World) : Calls Tryz.prog 123 #[.agg #[.int .i64 f, .int .i64 b, .int .i64 x]] w fun e w' => e = .returned (.bool v) ∧ Below w.heap.size w w' := by
  have := Sty.isStyle_any f b x w
  rwa [h] at this
theorem size_false (a b : Int) (h : isSize a b = false) : (a < 1 ∨ 120 < a) ∨ (b < 1 ∨ 60 < b) := by
  unfold isSize at h
  have := of_decide_eq_false h
  omega
set_option maxHeartbeats 1000000 in
theorem ref_size1 (a b : Int) (v : Value) (w : World) (h : isSize a b = false) :
    Calls Tryz.prog 121 #[.agg #[.int .i64 a, .int .i64 b, v]] w fun e w' => e = .returned (.int .i64 3) ∧ Below w.heap.size w w' := by
  rcases size_false a b h with (h1 | h1) | h2
  · go_enter Tryz.func121, Tryz.ntmps121
    go_wp2_with fail
    go_ret
    exact ⟨rfl, (Below.refl _ _).alloc (Nat.le_refl _) _⟩
  · have h1' : 1 ≤ a := by omega
    go_enter Tryz.func121, Tryz.ntmps121
    go_wp2_with fail
    go_ret
    exact ⟨rfl, (Below.refl _ _).alloc (Nat.le_refl _) _⟩
  · by_cases ha : 1 ≤ a ∧ a ≤ 120
    · obtain ⟨ha1, ha2⟩ := ha
      rcases h2 with h2 | h2
      · go_enter Tryz.func121, Tryz.ntmps121
        go_wp2_with fail
        go_ret
        exact ⟨rfl, (Below.refl _ _).alloc (Nat.le_refl _) _⟩
      · have h2' : 1 ≤ b := by omega
        go_enter Tryz.func121, Tryz.ntmps121
        go_wp2_with fail
        go_ret
        exact ⟨rfl, (Below.refl _ _).alloc (Nat.le_refl _) _⟩
    · by_cases h1 : a < 1
      · clear h2 ha
        go_enter Tryz.func121, Tryz.ntmps121
        go_wp2_with fail
        go_ret
        exact ⟨rfl, (Below.refl _ _).alloc (Nat.le_refl _) _⟩
      · have h1' : 1 ≤ a := by omega
        have h1'' : 120 < a := by omega
        clear h2 ha
        go_enter Tryz.func121, Tryz.ntmps121
        go_wp2_with fail
        go_ret
        exact ⟨rfl, (Below.refl _ _).alloc (Nat.le_refl _) _⟩
set_option maxHeartbeats 1000000 in
theorem ref_size2 (a b : Int) (ad : Option Addr) (L c : Nat) (w : World) (h : isSize a b = true) (hL : (L : Int) ≠ a * b) :
    Calls Tryz.prog 121 #[.agg #[.int .i64 a, .int .i64 b, .slice ad L c]] w fun e w' => e = .returned (.int .i64 3) ∧ Below w.heap.size w w' := by
  have ⟨p0, p1, p2, p3, p4, p5⟩ := prod_in a b h
  clear h
  obtain ⟨p, hp⟩ : ∃ p, p = a * b := ⟨_, rfl⟩
  rw [← hp] at hL p0 p1
  have e1 : a * b = p := hp.symm
  clear hp
  have ne : ((L : Int) != p) = true := by simpa using hL
  clear hL
  go_enter Tryz.func121, Tryz.ntmps121
  go_wp2_with fail
  go_ret
  exact ⟨rfl, (Below.refl _ _).alloc (Nat.le_refl _) _⟩
set_option maxHeartbeats 4000000 in
set_option maxRecDepth 100000 in
theorem ref_rows (n hh : Nat) (b o c : Nat) (cs : List C) (w : World) (hC : CellsAt w b o cs) (hs : isSize n hh = true) (hL : cs.length = n * hh) :
    Calls Tryz.prog 121 #[.agg #[.int .i64 (n : Int), .int .i64 (hh : Int), .slice (some ⟨b, o, none⟩) cs.length c]] w fun e w' => e = .returned (.int .i64 (firstErr (cellR n cs) 0 (n * hh))) ∧ Below w.heap.size w w' := by
  have HC : Hid (CellsAt w b o cs) := hC
  have ⟨p0, p1, p2, p3, p4, p5⟩ := prod_in n hh hs
  clear hs hC
  have e1 : (n : Int) * (hh : Int) = (cs.length : Int) := by rw [hL]; simp
  have l1 : cs.length ≤ 7200 := by rw [hL]; omega
  have HMOD : Hid (∀ k, k < cs.length → ¬ k % n + 1 = n → k + 1 < cs.length) := fun k hk hl => by
    rcases Nat.lt_or_ge (k + 1) cs.length with h | h
    · exact h
    · exfalso
      apply hl
      have e : k + 1 = n * hh := by omega
      have hn1 : 1 ≤ n := by omega
      have hlt := Nat.mod_lt k (show 0 < n by omega)
      have h1 : (k + 1) % n = 0 := by rw [e]; exact Nat.mul_mod_right n hh
      rw [Nat.add_mod] at h1
      rcases Nat.lt_or_ge (k % n + 1) n with h2 | h2
      · rcases Nat.lt_or_ge 1 n with h3 | h3
        · rw [Nat.mod_eq_of_lt h3, Nat.mod_eq_of_lt h2] at h1
          omega
        · omega
      · omega
  rw [← hL]
  clear hL p0 p1
  have ne : ((cs.length : Int) != (cs.length : Int)) = false := by simp
  generalize hl : cs.length = L at *
  have HLn : Hid (cs.length = L) := hl
  clear hl
  go_enter Tryz.func121, Tryz.ntmps121
  go_wp2_with fail
  go_loopg [39] L (fun g i wr => ∃ k : Nat, i = .int .i64 (k : Int) ∧ k ≤ L ∧ L - k ≤ g ∧ Below w.heap.size w wr ∧ wr.heap[w.heap.size]? = some (.cells #[.int .i64 (n : Int), .int .i64 (hh : Int), .slice (some ⟨b, o, none⟩) L c] 24 (0, 0)) ∧ firstErr (cellR n cs) k (L - k) = firstErr (cellR n cs) 0 L)
  case atStart => exact ⟨0, rfl, by omega, by omega, (Below.refl _ _).alloc (Nat.le_refl _) _, heap_alloc_new _ _, rfl⟩
  case round =>
    obtain ⟨k, rfl, hk, hg, hb, hv, hf⟩ := hrel
    have HF1 : Hid (firstErr (cellR n cs) k (L - k) = firstErr (cellR n cs) 0 L) := hf
    clear hf
    have ⟨g0, g1, g2, _⟩ := cells3 hv
    by_cases hlt : k < L
    · have HST : Hid (firstErr (cellR n cs) k (L - k) = if cellR n cs k = 0 then firstErr (cellR n cs) (k + 1) (L - (k + 1)) else cellR n cs k) := first_step (cellR n cs) k L hlt
      have lt1 : ((k : Int) < (L : Int)) := by omega
      obtain ⟨t0, t1, t2, t3⟩ := HC.out.below hb k (by rw [HLn.out]; exact hlt)
      have HCW : Hid (CellsAt wr b o cs) := HC.out.below hb
      rcases hcc : cs.getD k z0 with ⟨r, f, bk, xx⟩
      rw [hcc] at t0 t1 t2 t3
      dsimp only at t0 t1 t2 t3
      have HCC : Hid (cs.getD k z0 = (r, f, bk, xx)) := hcc
      clear hcc
      have ⟨c0, c1, c2, c3⟩ := cells4_new wr 91 (.int .i32 r) (.int .i64 f) (.int .i64 bk) (.int .i64 xx)
      have kb : Below wr.heap.size wr (wr.alloc (.cells #[.int .i32 r, .int .i64 f, .int .i64 bk, .int .i64 xx] 91)) := (Below.refl _ _).alloc (Nat.le_refl _) _
      have g0' := cell_keep kb g0
      have g1' := cell_keep kb g1
      have g2' := cell_keep kb g2
      by_cases hr : r = 0
      · cases hs : isSt (f, bk, xx) with
        | false =>
          have HZ : cellR n cs k = 4 := by unfold cellR; rw [HCC.out]; dsimp only; rw [if_pos (Or.inr hs)]
          have HV : Hid ((4 : Int) = firstErr (cellR n cs) 0 L) := by unfold Hid; rw [← HF1.out, HST.out, HZ, if_neg (by decide)]
          subst hr
          have HW : Hid (wd 0 = 0) := wd0
          have HS : Hid (isSt (f, bk, xx) = false) := hs
          clear hs HZ
          go_wp2_with (first | (go_at_call 69; refine (widthOf_to 0 _ 0 HW.out).mono ?_; rintro e W1 ⟨rfl, b1⟩; have d0 := cell_keep b1 c0; have d1 := cell_keep b1 c1; have d2 := cell_keep b1 c2; have d3 := cell_keep b1 c3; have G0 := cell_keep b1 g0'; have G1 := cell_keep b1 g1'; have G2 := cell_keep b1 g2'; have kw1 : Below wr.heap.size wr W1 := kb.trans (b1.mono kb.size)) | (go_at_call 123; refine (isStyle_to f bk xx _ HS.out _).mono ?_; rintro e W2 ⟨rfl, b2⟩; have e0 := cell_keep b2 d0; have e1 := cell_keep b2 d1; have e2 := cell_keep b2 d2; have e3 := cell_keep b2 d3; have E0 := cell_keep b2 G0; have E1 := cell_keep b2 G1; have E2 := cell_keep b2 G2; have kw2 : Below wr.heap.size wr W2 := kw1.trans (b2.mono kw1.size)))
          go_ret
          exact ⟨Txt.ret_int HV.out, hb.trans (kw2.mono hb.size)⟩
        | true =>
          by_cases hx0 : k % n = 0
          · have HZ : cellR n cs k = 5 := by unfold cellR; rw [HCC.out]; dsimp only; rw [if_neg (by simp [hr, hs])]; rw [if_pos ⟨hr, Or.inl hx0⟩]
            have HV : Hid ((5 : Int) = firstErr (cellR n cs) 0 L) := by unfold Hid; rw [← HF1.out, HST.out, HZ, if_neg (by decide)]
            subst hr
            have HW : Hid (wd 0 = 0) := wd0
            have nx : ((k : Int) % (n : Int) == 0) = true := by rw [← Int.natCast_emod, hx0]; rfl
            have HS : Hid (isSt (f, bk, xx) = true) := hs
            clear hs HZ
            go_wp2_with (first | (go_at_call 69; refine (widthOf_to 0 _ 0 HW.out).mono ?_; rintro e W1 ⟨rfl, b1⟩; have d0 := cell_keep b1 c0; have d1 := cell_keep b1 c1; have d2 := cell_keep b1 c2; have d3 := cell_keep b1 c3; have G0 := cell_keep b1 g0'; have G1 := cell_keep b1 g1'; have G2 := cell_keep b1 g2'; have kw1 : Below wr.heap.size wr W1 := kb.trans (b1.mono kb.size)) | (go_at_call 123; refine (isStyle_to f bk xx _ HS.out _).mono ?_; rintro e W2 ⟨rfl, b2⟩; have e0 := cell_keep b2 d0; have e1 := cell_keep b2 d1; have e2 := cell_keep b2 d2; have e3 := cell_keep b2 d3; have E0 := cell_keep b2 G0; have E1 := cell_keep b2 G1; have E2 := cell_keep b2 G2; have kw2 : Below wr.heap.size wr W2 := kw1.trans (b2.mono kw1.size)))
            have y0 : ∀ d os, (Sort.grow (redrawn W2 d) os).cell? ⟨wr.heap.size, 0, none⟩ = some (.int .i32 0) := fun d os => cell_regrown e0 d os
            have y1 : ∀ d os, (Sort.grow (redrawn W2 d) os).cell? ⟨wr.heap.size, 1, none⟩ = some (.int .i64 f) := fun d os => cell_regrown e1 d os
            have y2 : ∀ d os, (Sort.grow (redrawn W2 d) os).cell? ⟨wr.heap.size, 2, none⟩ = some (.int .i64 bk) := fun d os => cell_regrown e2 d os
            have y3 : ∀ d os, (Sort.grow (redrawn W2 d) os).cell? ⟨wr.heap.size, 3, none⟩ = some (.int .i64 xx) := fun d os => cell_regrown e3 d os
            have z0 : ∀ d os, (Sort.grow (redrawn W2 d) os).cell? ⟨w.heap.size, 0, none⟩ = some (.int .i64 (n : Int)) := fun d os => cell_regrown E0 d os
            have z2 : ∀ d os, (Sort.grow (redrawn W2 d) os).cell? ⟨w.heap.size, 2, none⟩ = some (.slice (some ⟨b, o, none⟩) L c) := fun d os => cell_regrown E2 d os
            refine wp_region_quiet_below (by kernel_rfl) (by kernel_rfl) ?_
            repeat (first | go_big_quiet_skip | quiet_step (fail))
            refine wpQuiet_nil ?_
            intro _ hw'
            obtain ⟨⟨dq, os⟩, hw''⟩ := hw'
            subst hw''
            have b3 := below_regrown W2 dq os
            have kw3 : Below wr.heap.size wr (Sort.grow (redrawn W2 dq) os) := kw2.trans (b3.mono kw2.size)
            have F0 := cell_keep b3 E0
            have F2 := cell_keep b3 E2
            have N0 := fun (a : Addr) (v : Value) (h : wr.cell? a = some v) => cell_keep kw3 h
            clear y0 y1 y2 y3 z0 z2
            generalize Sort.grow (redrawn W2 dq) os = W3 at *
            go_wp2_with fail
            go_ret
            exact ⟨Txt.ret_int HV.out, hb.trans (kw3.mono hb.size)⟩
          · have hk0 : 0 < k := by
              rcases Nat.eq_zero_or_pos k with h | h
              · exact absurd (by rw [h]; simp) hx0
              · exact h
            obtain ⟨q0, q1, q2, q3⟩ := HCW.out (k - 1) (by rw [HLn.out]; omega)
            rcases hpp : cs.getD (k - 1) z0 with ⟨rp, fp, bp, xp⟩
            rw [hpp] at q0 q1 q2 q3
            dsimp only at q0 q1 q2 q3
            have nx : ((k : Int) % (n : Int) == 0) = false := by rw [← Int.natCast_emod]; simp only [beq_eq_false_iff_ne, ne_eq]; omega

            by_cases hp2 : wd rp = 2
            · by_cases hq : (fp, bp, xp) = (f, bk, xx)
              · have HZ : cellR n cs k = 0 := by unfold cellR; rw [HCC.out]; dsimp only; rw [if_neg (by simp [hr, hs])]; rw [if_neg (by rw [hpp]; simp [hx0, hp2, hq]), if_neg (by rw [hr, wd0]; simp)]
                have HV : Hid (firstErr (cellR n cs) (k + 1) (L - (k + 1)) = firstErr (cellR n cs) 0 L) := by unfold Hid; rw [← HF1.out, HST.out, if_pos HZ]
                subst hr
                have HW : Hid (wd 0 = 0) := wd0
                have HP : Hid (wd rp = 2) := hp2
                clear hp2
                have nq : ∀ w, (binOp .neq 26 (.agg #[.int .i64 fp, .int .i64 bp, .int .i64 xp]) (.agg #[.int .i64 f, .int .i64 bk, .int .i64 xx])).run Tryz.prog w = .ok (.bool false) w := fun w => by rw [Sty.neq_agg]; simp [hq]
                clear hq hpp
                have HS : Hid (isSt (f, bk, xx) = true) := hs
                clear hs HZ
                go_wp2_with (first | (go_at_call 69; refine (widthOf_to 0 _ 0 HW.out).mono ?_; rintro e W1 ⟨rfl, b1⟩; have d0 := cell_keep b1 c0; have d1 := cell_keep b1 c1; have d2 := cell_keep b1 c2; have d3 := cell_keep b1 c3; have G0 := cell_keep b1 g0'; have G1 := cell_keep b1 g1'; have G2 := cell_keep b1 g2'; have kw1 : Below wr.heap.size wr W1 := kb.trans (b1.mono kb.size)) | (go_at_call 123; refine (isStyle_to f bk xx _ HS.out _).mono ?_; rintro e W2 ⟨rfl, b2⟩; have e0 := cell_keep b2 d0; have e1 := cell_keep b2 d1; have e2 := cell_keep b2 d2; have e3 := cell_keep b2 d3; have E0 := cell_keep b2 G0; have E1 := cell_keep b2 G1; have E2 := cell_keep b2 G2; have kw2 : Below wr.heap.size wr W2 := kw1.trans (b2.mono kw1.size)))
                have y0 : ∀ d os, (Sort.grow (redrawn W2 d) os).cell? ⟨wr.heap.size, 0, none⟩ = some (.int .i32 0) := fun d os => cell_regrown e0 d os
                have y1 : ∀ d os, (Sort.grow (redrawn W2 d) os).cell? ⟨wr.heap.size, 1, none⟩ = some (.int .i64 f) := fun d os => cell_regrown e1 d os
                have y2 : ∀ d os, (Sort.grow (redrawn W2 d) os).cell? ⟨wr.heap.size, 2, none⟩ = some (.int .i64 bk) := fun d os => cell_regrown e2 d os
                have y3 : ∀ d os, (Sort.grow (redrawn W2 d) os).cell? ⟨wr.heap.size, 3, none⟩ = some (.int .i64 xx) := fun d os => cell_regrown e3 d os
                have z0 : ∀ d os, (Sort.grow (redrawn W2 d) os).cell? ⟨w.heap.size, 0, none⟩ = some (.int .i64 (n : Int)) := fun d os => cell_regrown E0 d os
                have z2 : ∀ d os, (Sort.grow (redrawn W2 d) os).cell? ⟨w.heap.size, 2, none⟩ = some (.slice (some ⟨b, o, none⟩) L c) := fun d os => cell_regrown E2 d os
                have u0 : ∀ d os, (Sort.grow (redrawn W2 d) os).cell? ⟨b, o + (k - 1) * 4, none⟩ = some (.int .i32 rp) := fun d os => cell_regrown (cell_keep kw2 q0) d os
                have u1 : ∀ d os, (Sort.grow (redrawn W2 d) os).cell? ⟨b, o + (k - 1) * 4 + 1, none⟩ = some (.int .i64 fp) := fun d os => cell_regrown (cell_keep kw2 q1) d os
                have u2 : ∀ d os, (Sort.grow (redrawn W2 d) os).cell? ⟨b, o + (k - 1) * 4 + 2, none⟩ = some (.int .i64 bp) := fun d os => cell_regrown (cell_keep kw2 q2) d os
                have u3 : ∀ d os, (Sort.grow (redrawn W2 d) os).cell? ⟨b, o + (k - 1) * 4 + 3, none⟩ = some (.int .i64 xp) := fun d os => cell_regrown (cell_keep kw2 q3) d os
                have hwr : IntKind.i64.wrap ((k : Int) - 1) = ((k - 1 : Nat) : Int) := by unfold IntKind.wrap; simp [IntKind.bits, IntKind.signed]; omega
                have hkp : k - 1 < L := by omega
                have K4 : Hid (∀ d os, Calls Tryz.prog 69 #[.int .i32 rp] (Sort.grow (redrawn W2 d) os) fun e w'' => e = .returned (.int .i64 2) ∧ ∃ p : Regrown, w'' = Sort.grow (redrawn W2 p.d) p.os) := fun d os => Calls.regrown_of (widthOf_to rp _ 2 HP.out)
                refine wp_region_quiet_below (by kernel_rfl) (by kernel_rfl) ?_
                repeat (first | go_big_quiet_skip | quiet_step (first | (go_at_call 69; exact K4.out _ _)))
                refine wpQuiet_nil ?_
                intro _ hw'
                obtain ⟨⟨dq, os⟩, hw''⟩ := hw'
                subst hw''
                have b3 := below_regrown W2 dq os
                have kw3 : Below wr.heap.size wr (Sort.grow (redrawn W2 dq) os) := kw2.trans (b3.mono kw2.size)
                have F0 := cell_keep b3 E0
                have F2 := cell_keep b3 E2
                have N0 := fun (a : Addr) (v : Value) (h : wr.cell? a = some v) => cell_keep kw3 h
                clear y0 y1 y2 y3 z0 z2 u0 u1 u2 u3
                generalize Sort.grow (redrawn W2 dq) os = W3 at *
                go_wp2_with fail
                go_roundg (L - (k + 1))
                case measure => omega
                case rel => exact ⟨k + 1, rfl, by omega, by omega, hb.trans (kw3.mono hb.size), carry hv kw3, HV.out⟩
              · have HZ : cellR n cs k = 5 := by unfold cellR; rw [HCC.out]; dsimp only; rw [if_neg (by simp [hr, hs])]; rw [if_pos ⟨hr, Or.inr (Or.inr (by rw [hpp]; exact hq))⟩]
                have HV : Hid ((5 : Int) = firstErr (cellR n cs) 0 L) := by unfold Hid; rw [← HF1.out, HST.out, HZ, if_neg (by decide)]
                subst hr
                have HW : Hid (wd 0 = 0) := wd0
                have HP : Hid (wd rp = 2) := hp2
                clear hp2
                have nq : ∀ w, (binOp .neq 26 (.agg #[.int .i64 fp, .int .i64 bp, .int .i64 xp]) (.agg #[.int .i64 f, .int .i64 bk, .int .i64 xx])).run Tryz.prog w = .ok (.bool true) w := fun w => by rw [Sty.neq_agg]; simp [hq]
                clear hq hpp
                have HS : Hid (isSt (f, bk, xx) = true) := hs
                clear hs HZ
                go_wp2_with (first | (go_at_call 69; refine (widthOf_to 0 _ 0 HW.out).mono ?_; rintro e W1 ⟨rfl, b1⟩; have d0 := cell_keep b1 c0; have d1 := cell_keep b1 c1; have d2 := cell_keep b1 c2; have d3 := cell_keep b1 c3; have G0 := cell_keep b1 g0'; have G1 := cell_keep b1 g1'; have G2 := cell_keep b1 g2'; have kw1 : Below wr.heap.size wr W1 := kb.trans (b1.mono kb.size)) | (go_at_call 123; refine (isStyle_to f bk xx _ HS.out _).mono ?_; rintro e W2 ⟨rfl, b2⟩; have e0 := cell_keep b2 d0; have e1 := cell_keep b2 d1; have e2 := cell_keep b2 d2; have e3 := cell_keep b2 d3; have E0 := cell_keep b2 G0; have E1 := cell_keep b2 G1; have E2 := cell_keep b2 G2; have kw2 : Below wr.heap.size wr W2 := kw1.trans (b2.mono kw1.size)))
                have y0 : ∀ d os, (Sort.grow (redrawn W2 d) os).cell? ⟨wr.heap.size, 0, none⟩ = some (.int .i32 0) := fun d os => cell_regrown e0 d os
                have y1 : ∀ d os, (Sort.grow (redrawn W2 d) os).cell? ⟨wr.heap.size, 1, none⟩ = some (.int .i64 f) := fun d os => cell_regrown e1 d os
                have y2 : ∀ d os, (Sort.grow (redrawn W2 d) os).cell? ⟨wr.heap.size, 2, none⟩ = some (.int .i64 bk) := fun d os => cell_regrown e2 d os
                have y3 : ∀ d os, (Sort.grow (redrawn W2 d) os).cell? ⟨wr.heap.size, 3, none⟩ = some (.int .i64 xx) := fun d os => cell_regrown e3 d os
                have z0 : ∀ d os, (Sort.grow (redrawn W2 d) os).cell? ⟨w.heap.size, 0, none⟩ = some (.int .i64 (n : Int)) := fun d os => cell_regrown E0 d os
                have z2 : ∀ d os, (Sort.grow (redrawn W2 d) os).cell? ⟨w.heap.size, 2, none⟩ = some (.slice (some ⟨b, o, none⟩) L c) := fun d os => cell_regrown E2 d os
                have u0 : ∀ d os, (Sort.grow (redrawn W2 d) os).cell? ⟨b, o + (k - 1) * 4, none⟩ = some (.int .i32 rp) := fun d os => cell_regrown (cell_keep kw2 q0) d os
                have u1 : ∀ d os, (Sort.grow (redrawn W2 d) os).cell? ⟨b, o + (k - 1) * 4 + 1, none⟩ = some (.int .i64 fp) := fun d os => cell_regrown (cell_keep kw2 q1) d os
                have u2 : ∀ d os, (Sort.grow (redrawn W2 d) os).cell? ⟨b, o + (k - 1) * 4 + 2, none⟩ = some (.int .i64 bp) := fun d os => cell_regrown (cell_keep kw2 q2) d os
                have u3 : ∀ d os, (Sort.grow (redrawn W2 d) os).cell? ⟨b, o + (k - 1) * 4 + 3, none⟩ = some (.int .i64 xp) := fun d os => cell_regrown (cell_keep kw2 q3) d os
                have hwr : IntKind.i64.wrap ((k : Int) - 1) = ((k - 1 : Nat) : Int) := by unfold IntKind.wrap; simp [IntKind.bits, IntKind.signed]; omega
                have hkp : k - 1 < L := by omega
                have K4 : Hid (∀ d os, Calls Tryz.prog 69 #[.int .i32 rp] (Sort.grow (redrawn W2 d) os) fun e w'' => e = .returned (.int .i64 2) ∧ ∃ p : Regrown, w'' = Sort.grow (redrawn W2 p.d) p.os) := fun d os => Calls.regrown_of (widthOf_to rp _ 2 HP.out)
                refine wp_region_quiet_below (by kernel_rfl) (by kernel_rfl) ?_
                repeat (first | go_big_quiet_skip | quiet_step (first | (go_at_call 69; exact K4.out _ _)))
                refine wpQuiet_nil ?_
                intro _ hw'
                obtain ⟨⟨dq, os⟩, hw''⟩ := hw'
                subst hw''
                have b3 := below_regrown W2 dq os
                have kw3 : Below wr.heap.size wr (Sort.grow (redrawn W2 dq) os) := kw2.trans (b3.mono kw2.size)
                have F0 := cell_keep b3 E0
                have F2 := cell_keep b3 E2
                have N0 := fun (a : Addr) (v : Value) (h : wr.cell? a = some v) => cell_keep kw3 h
                clear y0 y1 y2 y3 z0 z2 u0 u1 u2 u3
                generalize Sort.grow (redrawn W2 dq) os = W3 at *
                go_wp2_with fail
                go_ret
                exact ⟨Txt.ret_int HV.out, hb.trans (kw3.mono hb.size)⟩
            · have HZ : cellR n cs k = 5 := by unfold cellR; rw [HCC.out]; dsimp only; rw [if_neg (by simp [hr, hs])]; rw [if_pos ⟨hr, Or.inr (Or.inl (by rw [hpp]; exact hp2))⟩]
              have HV : Hid ((5 : Int) = firstErr (cellR n cs) 0 L) := by unfold Hid; rw [← HF1.out, HST.out, HZ, if_neg (by decide)]
              subst hr
              have HW : Hid (wd 0 = 0) := wd0
              have np : (wd rp != 2) = true := by simpa using hp2
              clear hpp
              have HS : Hid (isSt (f, bk, xx) = true) := hs
              clear hs HZ
              go_wp2_with (first | (go_at_call 69; refine (widthOf_to 0 _ 0 HW.out).mono ?_; rintro e W1 ⟨rfl, b1⟩; have d0 := cell_keep b1 c0; have d1 := cell_keep b1 c1; have d2 := cell_keep b1 c2; have d3 := cell_keep b1 c3; have G0 := cell_keep b1 g0'; have G1 := cell_keep b1 g1'; have G2 := cell_keep b1 g2'; have kw1 : Below wr.heap.size wr W1 := kb.trans (b1.mono kb.size)) | (go_at_call 123; refine (isStyle_to f bk xx _ HS.out _).mono ?_; rintro e W2 ⟨rfl, b2⟩; have e0 := cell_keep b2 d0; have e1 := cell_keep b2 d1; have e2 := cell_keep b2 d2; have e3 := cell_keep b2 d3; have E0 := cell_keep b2 G0; have E1 := cell_keep b2 G1; have E2 := cell_keep b2 G2; have kw2 : Below wr.heap.size wr W2 := kw1.trans (b2.mono kw1.size)))
              have y0 : ∀ d os, (Sort.grow (redrawn W2 d) os).cell? ⟨wr.heap.size, 0, none⟩ = some (.int .i32 0) := fun d os => cell_regrown e0 d os
              have y1 : ∀ d os, (Sort.grow (redrawn W2 d) os).cell? ⟨wr.heap.size, 1, none⟩ = some (.int .i64 f) := fun d os => cell_regrown e1 d os
              have y2 : ∀ d os, (Sort.grow (redrawn W2 d) os).cell? ⟨wr.heap.size, 2, none⟩ = some (.int .i64 bk) := fun d os => cell_regrown e2 d os
              have y3 : ∀ d os, (Sort.grow (redrawn W2 d) os).cell? ⟨wr.heap.size, 3, none⟩ = some (.int .i64 xx) := fun d os => cell_regrown e3 d os
              have z0 : ∀ d os, (Sort.grow (redrawn W2 d) os).cell? ⟨w.heap.size, 0, none⟩ = some (.int .i64 (n : Int)) := fun d os => cell_regrown E0 d os
              have z2 : ∀ d os, (Sort.grow (redrawn W2 d) os).cell? ⟨w.heap.size, 2, none⟩ = some (.slice (some ⟨b, o, none⟩) L c) := fun d os => cell_regrown E2 d os
              have u0 : ∀ d os, (Sort.grow (redrawn W2 d) os).cell? ⟨b, o + (k - 1) * 4, none⟩ = some (.int .i32 rp) := fun d os => cell_regrown (cell_keep kw2 q0) d os
              have u1 : ∀ d os, (Sort.grow (redrawn W2 d) os).cell? ⟨b, o + (k - 1) * 4 + 1, none⟩ = some (.int .i64 fp) := fun d os => cell_regrown (cell_keep kw2 q1) d os
              have u2 : ∀ d os, (Sort.grow (redrawn W2 d) os).cell? ⟨b, o + (k - 1) * 4 + 2, none⟩ = some (.int .i64 bp) := fun d os => cell_regrown (cell_keep kw2 q2) d os
              have u3 : ∀ d os, (Sort.grow (redrawn W2 d) os).cell? ⟨b, o + (k - 1) * 4 + 3, none⟩ = some (.int .i64 xp) := fun d os => cell_regrown (cell_keep kw2 q3) d os
              have hwr : IntKind.i64.wrap ((k : Int) - 1) = ((k - 1 : Nat) : Int) := by unfold IntKind.wrap; simp [IntKind.bits, IntKind.signed]; omega
              have hkp : k - 1 < L := by omega
              have K4 : Hid (∀ d os, Calls Tryz.prog 69 #[.int .i32 rp] (Sort.grow (redrawn W2 d) os) fun e w'' => e = .returned (.int .i64 (wd rp)) ∧ ∃ p : Regrown, w'' = Sort.grow (redrawn W2 p.d) p.os) := fun d os => Calls.regrown_of (Txt.widthOf_any rp _)
              refine wp_region_quiet_below (by kernel_rfl) (by kernel_rfl) ?_
              repeat (first | go_big_quiet_skip | quiet_step (first | (go_at_call 69; exact K4.out _ _)))
              refine wpQuiet_nil ?_
              intro _ hw'
              obtain ⟨⟨dq, os⟩, hw''⟩ := hw'
              subst hw''
              have b3 := below_regrown W2 dq os
              have kw3 : Below wr.heap.size wr (Sort.grow (redrawn W2 dq) os) := kw2.trans (b3.mono kw2.size)
              have F0 := cell_keep b3 E0
              have F2 := cell_keep b3 E2
              have N0 := fun (a : Addr) (v : Value) (h : wr.cell? a = some v) => cell_keep kw3 h
              clear y0 y1 y2 y3 z0 z2 u0 u1 u2 u3
              generalize Sort.grow (redrawn W2 dq) os = W3 at *
              go_wp2_with fail
              go_ret
              exact ⟨Txt.ret_int HV.out, hb.trans (kw3.mono hb.size)⟩
      · by_cases hw : wd r = 0
        · have HZ : cellR n cs k = 4 := by unfold cellR; rw [HCC.out]; dsimp only; rw [if_pos (Or.inl ⟨hr, hw⟩)]
          have HV : Hid ((4 : Int) = firstErr (cellR n cs) 0 L) := by unfold Hid; rw [← HF1.out, HST.out, HZ, if_neg (by decide)]
          have nr : (r != 0) = true := by simpa using hr
          have nr' : (r == 0) = false := by simpa using hr
          have HW : Hid (wd r = 0) := hw
          clear hw HZ
          go_wp2_with (go_at_call 69; refine (widthOf_to r _ 0 HW.out).mono ?_; rintro e W1 ⟨rfl, b1⟩; have d0 := cell_keep b1 c0; have d1 := cell_keep b1 c1; have d2 := cell_keep b1 c2; have d3 := cell_keep b1 c3; have G0 := cell_keep b1 g0'; have G1 := cell_keep b1 g1'; have G2 := cell_keep b1 g2'; have kw1 : Below wr.heap.size wr W1 := kb.trans (b1.mono kb.size))
          go_ret
          exact ⟨Txt.ret_int HV.out, hb.trans (kw1.mono hb.size)⟩
        · cases hs : isSt (f, bk, xx) with
          | false =>
            have HZ : cellR n cs k = 4 := by unfold cellR; rw [HCC.out]; dsimp only; rw [if_pos (Or.inr hs)]
            have HV : Hid ((4 : Int) = firstErr (cellR n cs) 0 L) := by unfold Hid; rw [← HF1.out, HST.out, HZ, if_neg (by decide)]
            have nr : (r != 0) = true := by simpa using hr
            have nr' : (r == 0) = false := by simpa using hr
            have HW : Hid (wd r = wd r) := rfl
            have nw : (wd r == 0) = false := by simpa using hw
            have HS : Hid (isSt (f, bk, xx) = false) := hs
            clear hs HZ
            go_wp2_with (first | (go_at_call 69; refine (widthOf_to r _ _ HW.out).mono ?_; rintro e W1 ⟨rfl, b1⟩; have d0 := cell_keep b1 c0; have d1 := cell_keep b1 c1; have d2 := cell_keep b1 c2; have d3 := cell_keep b1 c3; have G0 := cell_keep b1 g0'; have G1 := cell_keep b1 g1'; have G2 := cell_keep b1 g2'; have kw1 : Below wr.heap.size wr W1 := kb.trans (b1.mono kb.size)) | (go_at_call 123; refine (isStyle_to f bk xx _ HS.out _).mono ?_; rintro e W2 ⟨rfl, b2⟩; have e0 := cell_keep b2 d0; have e1 := cell_keep b2 d1; have e2 := cell_keep b2 d2; have e3 := cell_keep b2 d3; have E0 := cell_keep b2 G0; have E1 := cell_keep b2 G1; have E2 := cell_keep b2 G2; have kw2 : Below wr.heap.size wr W2 := kw1.trans (b2.mono kw1.size)))
            go_ret
            exact ⟨Txt.ret_int HV.out, hb.trans (kw2.mono hb.size)⟩
          | true =>
            by_cases h2 : wd r = 2
            · by_cases hl : k % n + 1 = n
              · have HZ : cellR n cs k = 5 := by unfold cellR; rw [HCC.out]; dsimp only; rw [if_neg (by simp [hw, hs])]; rw [if_neg (by simp [hr]), if_pos ⟨h2, Or.inl hl⟩]
                have HV : Hid ((5 : Int) = firstErr (cellR n cs) 0 L) := by unfold Hid; rw [← HF1.out, HST.out, HZ, if_neg (by decide)]
                have nr : (r != 0) = true := by simpa using hr
                have nr' : (r == 0) = false := by simpa using hr
                have HW : Hid (wd r = 2) := h2
                clear h2 hw
                have nl : ((k : Int) % (n : Int) == (n : Int) - 1) = true := by rw [← Int.natCast_emod]; simp only [beq_iff_eq]; omega
                have HS : Hid (isSt (f, bk, xx) = true) := hs
                clear hs HZ
                go_wp2_with (first | (go_at_call 69; refine (widthOf_to r _ 2 HW.out).mono ?_; rintro e W1 ⟨rfl, b1⟩; have d0 := cell_keep b1 c0; have d1 := cell_keep b1 c1; have d2 := cell_keep b1 c2; have d3 := cell_keep b1 c3; have G0 := cell_keep b1 g0'; have G1 := cell_keep b1 g1'; have G2 := cell_keep b1 g2'; have kw1 : Below wr.heap.size wr W1 := kb.trans (b1.mono kb.size)) | (go_at_call 123; refine (isStyle_to f bk xx _ HS.out _).mono ?_; rintro e W2 ⟨rfl, b2⟩; have e0 := cell_keep b2 d0; have e1 := cell_keep b2 d1; have e2 := cell_keep b2 d2; have e3 := cell_keep b2 d3; have E0 := cell_keep b2 G0; have E1 := cell_keep b2 G1; have E2 := cell_keep b2 G2; have kw2 : Below wr.heap.size wr W2 := kw1.trans (b2.mono kw1.size)))
                have y0 : ∀ d os, (Sort.grow (redrawn W2 d) os).cell? ⟨wr.heap.size, 0, none⟩ = some (.int .i32 r) := fun d os => cell_regrown e0 d os
                have y1 : ∀ d os, (Sort.grow (redrawn W2 d) os).cell? ⟨wr.heap.size, 1, none⟩ = some (.int .i64 f) := fun d os => cell_regrown e1 d os
                have y2 : ∀ d os, (Sort.grow (redrawn W2 d) os).cell? ⟨wr.heap.size, 2, none⟩ = some (.int .i64 bk) := fun d os => cell_regrown e2 d os
                have y3 : ∀ d os, (Sort.grow (redrawn W2 d) os).cell? ⟨wr.heap.size, 3, none⟩ = some (.int .i64 xx) := fun d os => cell_regrown e3 d os
                have z0 : ∀ d os, (Sort.grow (redrawn W2 d) os).cell? ⟨w.heap.size, 0, none⟩ = some (.int .i64 (n : Int)) := fun d os => cell_regrown E0 d os
                have z2 : ∀ d os, (Sort.grow (redrawn W2 d) os).cell? ⟨w.heap.size, 2, none⟩ = some (.slice (some ⟨b, o, none⟩) L c) := fun d os => cell_regrown E2 d os
                refine wp_region_quiet_below (by kernel_rfl) (by kernel_rfl) ?_
                repeat (first | go_big_quiet_skip | quiet_step (fail))
                refine wpQuiet_nil ?_
                intro _ hw'
                obtain ⟨⟨dq, os⟩, hw''⟩ := hw'
                subst hw''
                have b3 := below_regrown W2 dq os
                have kw3 : Below wr.heap.size wr (Sort.grow (redrawn W2 dq) os) := kw2.trans (b3.mono kw2.size)
                have F0 := cell_keep b3 E0
                have F2 := cell_keep b3 E2
                have N0 := fun (a : Addr) (v : Value) (h : wr.cell? a = some v) => cell_keep kw3 h
                clear y0 y1 y2 y3 z0 z2
                generalize Sort.grow (redrawn W2 dq) os = W3 at *
                go_wp2_with fail
                go_ret
                exact ⟨Txt.ret_int HV.out, hb.trans (kw3.mono hb.size)⟩
              · have hk1 : k + 1 < L := by
                  have hmod := HMOD.out k hlt hl
                  exact hmod
                obtain ⟨s0, _⟩ := HCW.out (k + 1) (by rw [HLn.out]; exact hk1)
                generalize hrn : (cs.getD (k + 1) z0).1 = rn at s0
                have nl : ((k : Int) % (n : Int) == (n : Int) - 1) = false := by rw [← Int.natCast_emod]; simp only [beq_eq_false_iff_ne, ne_eq]; omega
                have hkL : ((k : Int) + 1) < (L : Int) := by omega

                by_cases hn : rn = 0
                · have HZ : cellR n cs k = 0 := by unfold cellR; rw [HCC.out]; dsimp only; rw [if_neg (by simp [hw, hs])]; rw [if_neg (by simp [hr]), if_neg (by rw [hrn]; simp [hl, hn])]
                  have HV : Hid (firstErr (cellR n cs) (k + 1) (L - (k + 1)) = firstErr (cellR n cs) 0 L) := by unfold Hid; rw [← HF1.out, HST.out, if_pos HZ]
                  have nr : (r != 0) = true := by simpa using hr
                  have nr' : (r == 0) = false := by simpa using hr
                  have HW : Hid (wd r = 2) := h2
                  clear h2 hw hrn
                  subst hn
                  have HS : Hid (isSt (f, bk, xx) = true) := hs
                  clear hs HZ
                  go_wp2_with (first | (go_at_call 69; refine (widthOf_to r _ 2 HW.out).mono ?_; rintro e W1 ⟨rfl, b1⟩; have d0 := cell_keep b1 c0; have d1 := cell_keep b1 c1; have d2 := cell_keep b1 c2; have d3 := cell_keep b1 c3; have G0 := cell_keep b1 g0'; have G1 := cell_keep b1 g1'; have G2 := cell_keep b1 g2'; have kw1 : Below wr.heap.size wr W1 := kb.trans (b1.mono kb.size)) | (go_at_call 123; refine (isStyle_to f bk xx _ HS.out _).mono ?_; rintro e W2 ⟨rfl, b2⟩; have e0 := cell_keep b2 d0; have e1 := cell_keep b2 d1; have e2 := cell_keep b2 d2; have e3 := cell_keep b2 d3; have E0 := cell_keep b2 G0; have E1 := cell_keep b2 G1; have E2 := cell_keep b2 G2; have kw2 : Below wr.heap.size wr W2 := kw1.trans (b2.mono kw1.size)))
                  have y0 : ∀ d os, (Sort.grow (redrawn W2 d) os).cell? ⟨wr.heap.size, 0, none⟩ = some (.int .i32 r) := fun d os => cell_regrown e0 d os
                  have y1 : ∀ d os, (Sort.grow (redrawn W2 d) os).cell? ⟨wr.heap.size, 1, none⟩ = some (.int .i64 f) := fun d os => cell_regrown e1 d os
                  have y2 : ∀ d os, (Sort.grow (redrawn W2 d) os).cell? ⟨wr.heap.size, 2, none⟩ = some (.int .i64 bk) := fun d os => cell_regrown e2 d os
                  have y3 : ∀ d os, (Sort.grow (redrawn W2 d) os).cell? ⟨wr.heap.size, 3, none⟩ = some (.int .i64 xx) := fun d os => cell_regrown e3 d os
                  have z0 : ∀ d os, (Sort.grow (redrawn W2 d) os).cell? ⟨w.heap.size, 0, none⟩ = some (.int .i64 (n : Int)) := fun d os => cell_regrown E0 d os
                  have z2 : ∀ d os, (Sort.grow (redrawn W2 d) os).cell? ⟨w.heap.size, 2, none⟩ = some (.slice (some ⟨b, o, none⟩) L c) := fun d os => cell_regrown E2 d os
                  refine wp_region_quiet_below (by kernel_rfl) (by kernel_rfl) ?_
                  repeat (first | go_big_quiet_skip | quiet_step (fail))
                  refine wpQuiet_nil ?_
                  intro _ hw'
                  obtain ⟨⟨dq, os⟩, hw''⟩ := hw'
                  subst hw''
                  have b3 := below_regrown W2 dq os
                  have kw3 : Below wr.heap.size wr (Sort.grow (redrawn W2 dq) os) := kw2.trans (b3.mono kw2.size)
                  have F0 := cell_keep b3 E0
                  have F2 := cell_keep b3 E2
                  have N0 := fun (a : Addr) (v : Value) (h : wr.cell? a = some v) => cell_keep kw3 h
                  clear y0 y1 y2 y3 z0 z2
                  generalize Sort.grow (redrawn W2 dq) os = W3 at *
                  have s1 := N0 _ _ s0
                  clear N0
                  go_wp2_with fail
                  go_roundg (L - (k + 1))
                  case measure => omega
                  case rel => exact ⟨k + 1, rfl, by omega, by omega, hb.trans (kw3.mono hb.size), carry hv kw3, HV.out⟩
                · have HZ : cellR n cs k = 5 := by unfold cellR; rw [HCC.out]; dsimp only; rw [if_neg (by simp [hw, hs])]; rw [if_neg (by simp [hr]), if_pos ⟨h2, Or.inr (by rw [hrn]; exact hn)⟩]
                  have HV : Hid ((5 : Int) = firstErr (cellR n cs) 0 L) := by unfold Hid; rw [← HF1.out, HST.out, HZ, if_neg (by decide)]
                  have nr : (r != 0) = true := by simpa using hr
                  have nr' : (r == 0) = false := by simpa using hr
                  have HW : Hid (wd r = 2) := h2
                  clear h2 hw hrn
                  have nn : (rn != 0) = true := by simpa using hn
                  have HS : Hid (isSt (f, bk, xx) = true) := hs
                  clear hs HZ
                  go_wp2_with (first | (go_at_call 69; refine (widthOf_to r _ 2 HW.out).mono ?_; rintro e W1 ⟨rfl, b1⟩; have d0 := cell_keep b1 c0; have d1 := cell_keep b1 c1; have d2 := cell_keep b1 c2; have d3 := cell_keep b1 c3; have G0 := cell_keep b1 g0'; have G1 := cell_keep b1 g1'; have G2 := cell_keep b1 g2'; have kw1 : Below wr.heap.size wr W1 := kb.trans (b1.mono kb.size)) | (go_at_call 123; refine (isStyle_to f bk xx _ HS.out _).mono ?_; rintro e W2 ⟨rfl, b2⟩; have e0 := cell_keep b2 d0; have e1 := cell_keep b2 d1; have e2 := cell_keep b2 d2; have e3 := cell_keep b2 d3; have E0 := cell_keep b2 G0; have E1 := cell_keep b2 G1; have E2 := cell_keep b2 G2; have kw2 : Below wr.heap.size wr W2 := kw1.trans (b2.mono kw1.size)))
                  have y0 : ∀ d os, (Sort.grow (redrawn W2 d) os).cell? ⟨wr.heap.size, 0, none⟩ = some (.int .i32 r) := fun d os => cell_regrown e0 d os
                  have y1 : ∀ d os, (Sort.grow (redrawn W2 d) os).cell? ⟨wr.heap.size, 1, none⟩ = some (.int .i64 f) := fun d os => cell_regrown e1 d os
                  have y2 : ∀ d os, (Sort.grow (redrawn W2 d) os).cell? ⟨wr.heap.size, 2, none⟩ = some (.int .i64 bk) := fun d os => cell_regrown e2 d os
                  have y3 : ∀ d os, (Sort.grow (redrawn W2 d) os).cell? ⟨wr.heap.size, 3, none⟩ = some (.int .i64 xx) := fun d os => cell_regrown e3 d os
                  have z0 : ∀ d os, (Sort.grow (redrawn W2 d) os).cell? ⟨w.heap.size, 0, none⟩ = some (.int .i64 (n : Int)) := fun d os => cell_regrown E0 d os
                  have z2 : ∀ d os, (Sort.grow (redrawn W2 d) os).cell? ⟨w.heap.size, 2, none⟩ = some (.slice (some ⟨b, o, none⟩) L c) := fun d os => cell_regrown E2 d os
                  refine wp_region_quiet_below (by kernel_rfl) (by kernel_rfl) ?_
                  repeat (first | go_big_quiet_skip | quiet_step (fail))
                  refine wpQuiet_nil ?_
                  intro _ hw'
                  obtain ⟨⟨dq, os⟩, hw''⟩ := hw'
                  subst hw''
                  have b3 := below_regrown W2 dq os
                  have kw3 : Below wr.heap.size wr (Sort.grow (redrawn W2 dq) os) := kw2.trans (b3.mono kw2.size)
                  have F0 := cell_keep b3 E0
                  have F2 := cell_keep b3 E2
                  have N0 := fun (a : Addr) (v : Value) (h : wr.cell? a = some v) => cell_keep kw3 h
                  clear y0 y1 y2 y3 z0 z2
                  generalize Sort.grow (redrawn W2 dq) os = W3 at *
                  have s1 := N0 _ _ s0
                  clear N0
                  go_wp2_with fail
                  go_ret
                  exact ⟨Txt.ret_int HV.out, hb.trans (kw3.mono hb.size)⟩
            · have HZ : cellR n cs k = 0 := by unfold cellR; rw [HCC.out]; dsimp only; rw [if_neg (by simp [hw, hs])]; rw [if_neg (by simp [hr]), if_neg (by simp [h2])]
              have HV : Hid (firstErr (cellR n cs) (k + 1) (L - (k + 1)) = firstErr (cellR n cs) 0 L) := by unfold Hid; rw [← HF1.out, HST.out, if_pos HZ]
              have nr : (r != 0) = true := by simpa using hr
              have nr' : (r == 0) = false := by simpa using hr
              have nw : (wd r == 0) = false := by simpa using hw
              have n2 : (wd r == 2) = false := by simpa using h2
              have HW : Hid (wd r = wd r) := rfl
              have HS : Hid (isSt (f, bk, xx) = true) := hs
              clear hs HZ
              go_wp2_with (first | (go_at_call 69; refine (widthOf_to r _ _ HW.out).mono ?_; rintro e W1 ⟨rfl, b1⟩; have d0 := cell_keep b1 c0; have d1 := cell_keep b1 c1; have d2 := cell_keep b1 c2; have d3 := cell_keep b1 c3; have G0 := cell_keep b1 g0'; have G1 := cell_keep b1 g1'; have G2 := cell_keep b1 g2'; have kw1 : Below wr.heap.size wr W1 := kb.trans (b1.mono kb.size)) | (go_at_call 123; refine (isStyle_to f bk xx _ HS.out _).mono ?_; rintro e W2 ⟨rfl, b2⟩; have e0 := cell_keep b2 d0; have e1 := cell_keep b2 d1; have e2 := cell_keep b2 d2; have e3 := cell_keep b2 d3; have E0 := cell_keep b2 G0; have E1 := cell_keep b2 G1; have E2 := cell_keep b2 G2; have kw2 : Below wr.heap.size wr W2 := kw1.trans (b2.mono kw1.size)))
              have y0 : ∀ d os, (Sort.grow (redrawn W2 d) os).cell? ⟨wr.heap.size, 0, none⟩ = some (.int .i32 r) := fun d os => cell_regrown e0 d os
              have y1 : ∀ d os, (Sort.grow (redrawn W2 d) os).cell? ⟨wr.heap.size, 1, none⟩ = some (.int .i64 f) := fun d os => cell_regrown e1 d os
              have y2 : ∀ d os, (Sort.grow (redrawn W2 d) os).cell? ⟨wr.heap.size, 2, none⟩ = some (.int .i64 bk) := fun d os => cell_regrown e2 d os
              have y3 : ∀ d os, (Sort.grow (redrawn W2 d) os).cell? ⟨wr.heap.size, 3, none⟩ = some (.int .i64 xx) := fun d os => cell_regrown e3 d os
              have z0 : ∀ d os, (Sort.grow (redrawn W2 d) os).cell? ⟨w.heap.size, 0, none⟩ = some (.int .i64 (n : Int)) := fun d os => cell_regrown E0 d os
              have z2 : ∀ d os, (Sort.grow (redrawn W2 d) os).cell? ⟨w.heap.size, 2, none⟩ = some (.slice (some ⟨b, o, none⟩) L c) := fun d os => cell_regrown E2 d os
              refine wp_region_quiet_below (by kernel_rfl) (by kernel_rfl) ?_
              repeat (first | go_big_quiet_skip | quiet_step (fail))
              refine wpQuiet_nil ?_
              intro _ hw'
              obtain ⟨⟨dq, os⟩, hw''⟩ := hw'
              subst hw''
              have b3 := below_regrown W2 dq os
              have kw3 : Below wr.heap.size wr (Sort.grow (redrawn W2 dq) os) := kw2.trans (b3.mono kw2.size)
              have F0 := cell_keep b3 E0
              have F2 := cell_keep b3 E2
              have N0 := fun (a : Addr) (v : Value) (h : wr.cell? a = some v) => cell_keep kw3 h
              clear y0 y1 y2 y3 z0 z2
              generalize Sort.grow (redrawn W2 dq) os = W3 at *
              go_wp2_with fail
              go_roundg (L - (k + 1))
              case measure => omega
              case rel => exact ⟨k + 1, rfl, by omega, by omega, hb.trans (kw3.mono hb.size), carry hv kw3, HV.out⟩
    · have lt1 : ¬ ((k : Int) < (L : Int)) := by omega
      have HV : Hid (0 = firstErr (cellR n cs) 0 L) := by unfold Hid; rw [← HF1.out, first_end _ _ _ hlt]
      go_wp2_with fail
      go_ret
      exact ⟨Txt.ret_int HV.out, hb⟩
theorem ref_any (a h : Int) (v : Value) (cs : List C) (w : World) (hS : SliceAt w v cs) :
    Calls Tryz.prog 121 #[.agg #[.int .i64 a, .int .i64 h, v]] w fun e w' => e = .returned (.int .i64 (gridErr a h cs)) ∧ Below w.heap.size w w' := by
  unfold gridErr
  cases hs : isSize a h with
  | false => rw [if_pos (Or.inl rfl)]; exact ref_size1 a h v w hs
  | true =>
    obtain ⟨p0, p1, p2, p3, p4, p5⟩ := prod_in a h hs
    by_cases hL : (cs.length : Int) = a * h
    · rw [if_neg (by simp [hL])]
      rcases hS with ⟨rfl, _⟩ | ⟨_, b, o, c, rfl, hc, hm, hC⟩
      · exfalso
        have : 1 * 1 ≤ a * h := Int.mul_le_mul p2 p4 (by omega) (by omega)
        simp at hL
        omega
      · obtain ⟨n, rfl⟩ := Int.eq_ofNat_of_zero_le (show 0 ≤ a by omega)
        obtain ⟨m, rfl⟩ := Int.eq_ofNat_of_zero_le (show 0 ≤ h by omega)
        rw [Int.toNat_natCast, Int.toNat_natCast, errs_same n m cs (by exact_mod_cast hL)]
        exact ref_rows n m b o c cs w hC hs (by exact_mod_cast hL)
    · rw [if_pos (Or.inr hL)]
      obtain ⟨ad, c, rfl⟩ := hS.shape
      exact ref_size2 a h ad cs.length c w hs hL
end Grd
end Go.Proofs.YtnkeahfcpbepjaaGreatDoor

/- The walk of the reference's CleanOf. -/
namespace Go.Proofs.YtnkeahfcpbepjaaGreatDoor
open Go.ChangeShapes Go.WideShapes Go.ChangeAt Go.RowKit Go.Maps
namespace Txt

set_option maxHeartbeats 1000000 in
theorem cleanOf_any (s : ByteArray) (w : World) (hs : s.size ≤ 281474976710656) :
    Calls Tryz.prog 30 #[.string s] w fun e w' => e = .returned (.string (bs (cleanL (runes s)))) ∧ Below w.heap.size w w' := by
  go_enter Tryz.func30, Tryz.ntmps30
  go_wp2
  go_loopw [3] (fun a wr => ∃ (pos f : Nat) (acc : List UInt8), wr.heap[w.heap.size]? = some (.stringIter s pos) ∧ Below w.heap.size w wr ∧ a = .string (bs acc) ∧ acc ++ cleanL (rs s f pos) = cleanL (runes s) ∧ s.size ≤ pos + f ∧ acc.length ≤ 4 * pos ∧ pos ≤ s.size) (fun _ wr => s.size - wr.iterPos w.heap.size)
  case atStart =>
    exact ⟨0, s.size, [], World.iter_heap w s 0, (Below.refl _ w).alloc (Nat.le_refl _) _, rfl, by simp [runes], by omega, by simp, by omega⟩
  case round =>
    obtain ⟨pos, f, acc, hit, hbw, rfl, hc, hf, hal, hps⟩ := hrel
    have HC : Hid (acc ++ cleanL (rs s f pos) = cleanL (runes s)) := hc
    clear hc
    have hsz : w.heap.size < wr.heap.size := (Array.getElem?_eq_some_iff.1 hit).1
    by_cases hp : pos < s.size
    · have hnx : ∀ ty, (Instr.next (.pointer (some ⟨w.heap.size, 0, none⟩)) true ty).run Tryz.prog wr = _ := fun ty => Lib.run_next_any_at wr w.heap.size s pos ty hit hp
      have hwd := width_pos s pos hp
      have hfit := decode_fits s pos hp
      obtain ⟨f, rfl⟩ : ∃ g, f = g + 1 := ⟨f - 1, by omega⟩
      have HR : Hid (rs s (f + 1) pos = (((Utf8.decode s pos).1 : Int), (Utf8.decode s pos).2) :: rs s f (pos + (Utf8.decode s pos).2)) := rs_step s f pos hp
      have hit2 := Lib.iterAt_heap wr w.heap.size s pos (pos + (Utf8.decode s pos).2) hit
      have hbw2 := Lib.below_iterAt hbw (k := w.heap.size) (Nat.le_refl _) s (pos + (Utf8.decode s pos).2)
      have hsz2 : w.heap.size < (wr.iterAt w.heap.size s (pos + (Utf8.decode s pos).2)).heap.size := by rw [Lib.iterAt_size]; exact hsz
      have HI : Hid (wr.iterPos w.heap.size = pos) := by simp only [Hid, World.iterPos, hit]
      clear hit
      generalize Utf8.decode s pos = d at *
      have hl4 := encodeRune_length d.1
      by_cases hpos : 0 < wd d.1
      · have HE : Hid (Utf8.encode (d.1 : Int) = bs (Lib.encodeRune d.1)) := encode_eq d.1
        have hsum : ¬ 9223372036854775807 < (bs acc).size + (Utf8.encode (d.1 : Int)).size := by rw [HE.out, bs_size, bs_size]; omega
        go_wp2_with (go_at_call 69; refine (widthOf_any _ _).mono ?_; rintro e W1 ⟨rfl, b1⟩)
        go_roundw
        case rel =>
          refine ⟨pos + d.2, f, acc ++ Lib.encodeRune d.1, (b1.block _ hsz2).trans hit2, hbw2.trans (b1.mono (by omega)), ?_, ?_, by omega, by simp; omega, by omega⟩
          · rw [← bs_append, ← HE.out]
          · rw [← HC.out, HR.out]; simp [cleanL, hpos]
        case measure =>
          rw [HI.out]
          simp only [World.iterPos, (b1.block _ hsz2).trans hit2]
          omega
      · have hz : ¬ 0 < wd d.1 := hpos
        go_wp2_with (go_at_call 69; refine (widthOf_any _ _).mono ?_; rintro e W1 ⟨rfl, b1⟩)
        go_roundw
        case rel =>
          refine ⟨pos + d.2, f, acc, (b1.block _ hsz2).trans hit2, hbw2.trans (b1.mono (by omega)), rfl, ?_, by omega, by omega, by omega⟩
          rw [← HC.out, HR.out]; simp only [cleanL]; rw [if_neg (by omega)]; rfl
        case measure =>
          rw [HI.out]
          simp only [World.iterPos, (b1.block _ hsz2).trans hit2]
          omega
    · have hnx : ∀ ty, (Instr.next (.pointer (some ⟨w.heap.size, 0, none⟩)) true ty).run Tryz.prog wr = _ := fun ty => Lib.run_next_end_at wr w.heap.size s pos ty hit hp
      go_wp2
      go_ret
      have := HC.out
      rw [rs_end s f pos hp, cleanL, List.append_nil] at this
      subst this
      exact ⟨rfl, hbw⟩
end Txt
end Go.Proofs.YtnkeahfcpbepjaaGreatDoor
