/- The desk's blank and Wipe. -/
import Derived.Test.YtnkeahfcpbepjaaGreatDoorPartM
import Derived.Test.YtnkeahfcpbepjaaGreatDoorPartN
import Derived.Deep.RegionHeld3
import Derived.Deep.RegionWith
import Derived.Deep.Cut
import Derived.Deep.CutRange
import Derived.Test.YtnkeahfcpbepjaaGreatDoorPartL
import Derived.Test.YtnkeahfcpbepjaaGreatDoorPartH
namespace Go.Proofs.YtnkeahfcpbepjaaGreatDoor
open Go.ChangeShapes Go.WideShapes Go.ChangeAt Go.RowKit
namespace Put
open Grd (C SliceAt CellsAt gridErr z0 nilV rowsL RowsAt RowB flat words putRow mendL)
theorem one4d (a : Int) (b c d : Int) : (#[.int .i32 a, .int .i64 b, .int .i64 c, .int .i64 d] : Array Value).all (·.oneCell') = true := by simp [Value.oneCell']
set_option maxHeartbeats 2000000 in
theorem dblank_any (p : Nat) (bk : Int) (V : World) (h : V.cell? ⟨p, 7, none⟩ = some (.int .i64 bk)) : Calls Tryz.prog 99 #[.pointer (some ⟨p, 0, none⟩)] V fun e V' => e = .returned (.agg #[.int .i32 32, .int .i64 0, .int .i64 bk, .int .i64 0]) ∧ Below V.heap.size V V' := by
  have x0 := heap_alloc_new V (.cells #[.int .i32 0, .int .i64 0, .int .i64 0, .int .i64 0] 91)
  have kb : Below V.heap.size V (V.alloc (.cells #[.int .i32 0, .int .i64 0, .int .i64 0, .int .i64 0] 91)) := (Below.refl _ _).alloc (Nat.le_refl _) _
  have h1 := cell_stay kb h
  have HX0 : Hid _ := x0
  have HKB : Hid _ := kb
  clear x0 kb h
  go_enter Tryz.func99, Tryz.ntmps99
  go_upto_region 1 with fail
  generalize V.alloc (.cells #[.int .i32 0, .int .i64 0, .int .i64 0, .int .i64 0] 91) = Y at *
  go_wp2_with (refine wpList_store_row rfl 91 (.tmp 2) _ rfl V.heap.size #[.int .i32 32, .int .i64 0, .int .i64 bk, .int .i64 0] rfl rfl _ _ HX0.out (by kernel_rfl) rfl (one4d _ _ _ _) ?_)
  (try simp only [Exit.inBlock, Exit.then])
  refine bodyPost_ret (v := .agg #[.int .i32 32, .int .i64 0, .int .i64 bk, .int .i64 0]) ?_ rfl ⟨rfl, below_setRow HKB.out (Nat.le_refl _) _⟩
  exact results_cell_row rfl _ _ V.heap.size _ _ _ _ rfl (setRow_heap _ _ _ _ _ _ HX0.out) Tryz.underlying91 rfl (by kernel_rfl)
theorem gsD {gs : List Nat} {i : Nat} (h : i < gs.length) : gs.getD i 0 ∈ gs := by
  have e : gs.getD i 0 = gs[i] := by simp [List.getD, h]
  rw [e]
  exact List.getElem_mem h
/-- The rows that are gone stay where a row's own block turns. -/
theorem gone_kept {W W' : World} {N g : Nat} {gvs : List Value} {gone : List (List C)} (h : RowsIn W N gvs gone) (hg : ∀ i, i < gone.length → gone.getD i [] ≠ [] → blkOf (gvs.getD i nilV) ≠ some g) (ho : ∀ k, k ≠ g → W'.heap[k]? = W.heap[k]?) : RowsIn W' N gvs gone := by
  refine ⟨h.1, fun i hi => ?_⟩
  rcases h.2 i hi with h1 | ⟨h1, b, o, c, hv, h2, h3, h4, h5⟩
  · exact .inl h1
  · have hb : b ≠ g := fun e => hg i hi h1 (by rw [hv, ← e]; rfl)
    exact .inr ⟨h1, b, o, c, hv, h2, h3, cells_kept h4 (ho b hb), h5.keep (ho b hb)⟩
/-- A cell of a row is stored in its place. -/
theorem DkA.cell {W : World} {N p : Nat} {s : Scr} {rows : List (List C)} {cv tv gv rv : Value} {gvs vs : List Value} {gs : List Nat} (h : DkA W N p s rows cv tv gv rv gvs vs gs) (y x : Nat) (hy : y < rows.length) (hx : x < (rows.getD y []).length) (c : C) :
    DkA (W.setCells (gs.getD y 0) (x * 4) (words c)) N p s (rows.set y ((rows.getD y []).set x c)) cv tv gv rv gvs vs gs := by
  obtain ⟨hg, cap, rest, hv, hc1, hc2, hh⟩ := h.rin.2.2.2 y hy
  have hgl : y < gs.length := by rw [h.rin.2.1]; exact hy
  have ho : ∀ k, k ≠ gs.getD y 0 → (W.setCells (gs.getD y 0) (x * 4) (words c)).heap[k]? = W.heap[k]? := fun k hk => Grd.heap_setCells_ne _ k hk _ _ _
  have hst := Grd.store_cell (w := W) (pre := []) (post := rest) (by rw [List.nil_append]; exact hh) x hx c
  rw [List.length_nil, Nat.zero_add, List.nil_append] at hst
  have hne : p ≠ gs.getD y 0 := fun e => by
    have hb := h.blk
    rw [e, hh] at hb
    injection hb with hb
    injection hb with _ hb _
    exact absurd hb (by decide)
  have hr : RowsAt (W.setCells (gs.getD y 0) (x * 4) (words c)) N (vs.set y (vs.getD y nilV)) (gs.set y (gs.getD y 0)) (rows.set y ((rows.getD y []).set x c)) := h.rin.set y hy (gs.getD y 0) (vs.getD y nilV) _ hg ⟨cap, rest, by rw [List.length_set]; exact hv, by rw [List.length_set]; exact hc1, hc2, hst⟩ (fun i hi hn => h.rin.ne i y hi hy hn) (fun i hi hn => ho _ (h.rin.ne i y hi hy hn))
  rw [set_getD _ _ _ (by rw [h.rin.1]; exact hy), set_getD _ _ _ hgl] at hr
  refine ⟨(ho p hne).trans h.blk, h.lo, h.cvs, own_apart h.tabs hh (by decide) ho, h.gone.apart hh (by decide) ho, gone_kept h.gin (fun i hi hn e => h.gof i hi hn _ e (gsD hgl)) ho, h.gof, ?_, hr, h.two⟩
  rw [List.length_set]
  exact own_apart h.rws hh (by decide) ho
/-- Another row in the place of one. -/
theorem DkA.row {W : World} {N p : Nat} {s : Scr} {rows : List (List C)} {cv tv gv : Value} {gvs vs : List Value} {gs : List Nat} {G c : Nat} (h : DkA W N p s rows cv tv gv (.slice (some ⟨G, 0, none⟩) rows.length c) gvs vs gs) (y : Nat) (hy : y < rows.length) (g : Nat) (v : Value) (row : List C) (hg : N ≤ g) (hr : RowB W g v row)
    (hn1 : ∀ i, i < rows.length → gs.getD i 0 ≠ g) (hn2 : ∀ i, i < s.gone.length → s.gone.getD i [] ≠ [] → blkOf (gvs.getD i nilV) ≠ some g) :
    DkA (W.setCell ⟨G, y, none⟩ v) N p s (rows.set y row) cv tv gv (.slice (some ⟨G, 0, none⟩) rows.length c) gvs (vs.set y v) (gs.set y g) := by
  obtain ⟨G', c', hv, hGN, -, -, -, -, A, hA⟩ := own_cells h.rws (by omega)
  injection hv with hv1 _ hv3
  injection hv1 with hv1
  injection hv1 with hv1
  subst hv1
  have ho : ∀ k, k ≠ G → (W.setCell ⟨G, y, none⟩ v).heap[k]? = W.heap[k]? := fun k hk => store_off hk
  have hne : p ≠ G := fun e => by
    have hb := h.blk
    rw [e, hA] at hb
    injection hb with hb
    injection hb with _ hb _
    exact absurd hb (by decide)
  have hgG : g ≠ G := fun e => by
    obtain ⟨B, hB⟩ := rowB_type hr
    rw [e, hA] at hB
    injection hB with hB
    injection hB with _ hB _
    exact absurd hB (by decide)
  have hgi : ∀ i, i < rows.length → gs.getD i 0 ≠ G := fun i hi e => by
    obtain ⟨B, hB⟩ := rowB_type (h.rin.2.2.2 i hi).2
    rw [e, hA] at hB
    injection hB with hB
    injection hB with _ hB _
    exact absurd hB (by decide)
  have hr2 : RowB (W.setCell ⟨G, y, none⟩ v) g v row := by
    obtain ⟨cap, rest, q0, q1, q2, q3⟩ := hr
    exact ⟨cap, rest, q0, q1, q2, (ho g hgG).trans q3⟩
  refine ⟨(ho p hne).trans h.blk, h.lo, h.cvs, own_apart h.tabs hA (by decide) ho, ?_, ?_, ?_, ?_, ?_, h.two⟩
  · refine h.gone.kept fun q hq => ho q fun e => ?_
    subst e
    exact h.two q rfl hq
  · exact h.gin.keep (Kept.apart hA (by decide) hGN ho)
  · intro i hi hn q hq hm
    rcases List.mem_or_eq_of_mem_set hm with h1 | h1
    · exact h.gof i hi hn q hq h1
    · exact hn2 i hi hn (by rw [← h1]; exact hq)
  · rw [List.length_set]
    exact own_set h.rws
  · exact h.rin.set y hy g v row hg hr2 (fun i hi _ => hn1 i hi) (fun i hi _ => ho _ (hgi i hi))
/-- Cells from one up to another are blank. -/
def putTo (bk : Int) (row : List C) (a k : Nat) : List C := putRow row (fun x => decide (a ≤ x ∧ x < k)) fun _ => (32, 0, bk, 0)
theorem putTo_len (bk : Int) (row : List C) (a k : Nat) : (putTo bk row a k).length = row.length := Grd.putRow_len _ _ _
theorem putTo_start (bk : Int) (row : List C) (a : Nat) : putTo bk row a a = row := Grd.putRow_none _ _ _ fun x _ => by
  rw [decide_eq_false_iff_not]
  omega
theorem putTo_next (bk : Int) (row : List C) (a k : Nat) (hk : k < row.length) (ha : a ≤ k) : (putTo bk row a k).set k (32, 0, bk, 0) = putTo bk row a (k + 1) := Grd.putRow_set row _ _ (fun _ => (32, 0, bk, 0)) k hk fun x _ => by
  by_cases e : x = k
  · subst e
    simp
    omega
  · simp only [e, decide_false, Bool.or_false]
    rw [decide_eq_decide]
    omega
theorem wipe_put (bk : Int) (row : List C) (a k : Nat) : wipeRow bk row a k = mendL (putTo bk row a k) := rfl
theorem wipe_cells {V : World} {p G y g x : Nat} {u v : Value} {vs : List Value} (h1 : p ≠ g) (h2 : G ≠ g) (h : V.cell? ⟨p, 22, none⟩ = some u ∧ V.cell? ⟨G, y, none⟩ = some v) : (V.setCells g x vs).cell? ⟨p, 22, none⟩ = some u ∧ (V.setCells g x vs).cell? ⟨G, y, none⟩ = some v := by
  have e : ∀ k i, k ≠ g → (V.setCells g x vs).cell? ⟨k, i, none⟩ = V.cell? ⟨k, i, none⟩ := fun k i hk => by simp [World.cell?, Grd.heap_setCells_ne g k hk vs x V]
  exact ⟨(e p 22 h1).trans h.1, (e G y h2).trans h.2⟩
theorem cell_off {V : World} {p G i j : Nat} {v : Value} (h : p ≠ G) : (V.setCell ⟨G, i, none⟩ v).cell? ⟨p, j, none⟩ = V.cell? ⟨p, j, none⟩ := by
  simp [World.cell?, store_off (W := V) (p := G) (i := i) (v := v) h]
theorem rowB_shape {W : World} {g : Nat} {v : Value} {row : List C} (h : RowB W g v row) : ∃ a c, v = .slice a row.length c := by
  obtain ⟨cap, rest, hv, -⟩ := h
  exact ⟨_, cap, hv⟩
set_option maxHeartbeats 8000000 in
set_option maxRecDepth 100000 in
theorem deskWipe_any (W : World) (N p : Nat) (s : Scr) (rows : List (List C)) (hN : N ≤ W.heap.size) (hD : DkAt W N p s rows) (n y a b : Nat) (hw : s.w = n) (hn : n ≤ 120) (hy : y < rows.length) (hyb : y ≤ 60) (hrl : rows.length ≤ 60) (_ha : a ≤ n) (_hb : b ≤ 240) (hab : a ≤ min b n) (hrow : (rows.getD y []).length = n) (hn1 : 1 ≤ n) :
    Calls Tryz.prog 96 #[.pointer (some ⟨p, 0, none⟩), .int .i64 (y : Int), .int .i64 (a : Int), .int .i64 (b : Int)] W fun e W' => e = .returned (.tuple #[]) ∧ DkAt W' N p s (rows.set y (wipeRow s.sb (rows.getD y []) a (min b n))) ∧ Below N W W' := by
  have m1 := Grd.max2 (a : Int) 0
  rw [show max (a : Int) 0 = (a : Int) by omega] at m1
  have m2 := Grd.min2 (b : Int) (n : Int)
  rw [show min (b : Int) (n : Int) = ((min b n : Nat) : Int) by omega] at m2
  obtain ⟨row, hr⟩ : ∃ row, row = rows.getD y [] := ⟨_, rfl⟩
  rw [← hr] at hrow ⊢
  obtain ⟨e, he⟩ : ∃ e, e = min b n := ⟨_, rfl⟩
  rw [← he] at hab m2 ⊢
  have hen : e ≤ n := by omega
  have HR : Hid (row = rows.getD y []) := hr
  have HW : Hid (s.w = n) := hw
  have HD0 : Hid (DkAt W N p s (rows.set y (putTo s.sb row a a))) := by unfold Hid; rw [putTo_start, hr, set_getD _ _ _ hy]; exact hD
  clear hD hr hw he
  go_enter Tryz.func96, Tryz.ntmps96
  go_wp2_with fail
  go_loopg [8] n (fun q i wr => ∃ k : Nat, i = .int .i64 (k : Int) ∧ a ≤ k ∧ k ≤ e ∧ e - k ≤ q ∧ DkAt wr N p s (rows.set y (putTo s.sb row a k)) ∧ Below N W wr)
  case atStart => exact ⟨a, rfl, Nat.le_refl _, hab, by omega, HD0.out, Below.refl _ _⟩
  case round =>
    clear HD0
    obtain ⟨k, rfl, hk1, hk2, hq, hDk, hBk⟩ := hrel
    obtain ⟨cv, tv, gv, rv, gvs, vs, gs, hA⟩ := hDk
    have hyl : y < (rows.set y (putTo s.sb row a k)).length := by rw [List.length_set]; exact hy
    obtain ⟨G, rc, hrv, hGN, hrc1, hrc2, hvl, hcell, A, hGA⟩ := own_cells hA.rws (by omega)
    obtain ⟨hg, cap, rest, hvv, hc1, hc2, hgh⟩ := hA.rin.2.2.2 y hyl
    have hgy : (rows.set y (putTo s.sb row a k)).getD y [] = putTo s.sb row a k := getD_set_same _ _ _ _ hy
    rw [hgy, putTo_len, hrow] at hvv hc1
    rw [hgy] at hgh
    have d1 := hcell y hyl
    rw [hvv] at d1
    obtain ⟨⟨c0, -, -, -, -, -, -, c7, -⟩, ⟨-, -, -, -, -, -, -, -, -, -, -, c22⟩, -⟩ := sh_cells hA.blk
    rw [HW.out] at c0
    rw [List.length_set] at hrv hrc1
    rw [hrv] at c22
    have HBK : Hid (Below N W wr) := hBk
    have hsz := hBk.size
    have hpl := heap_lt hA.blk
    have hGl := heap_lt hGA
    have hgl := heap_lt hgh
    have hpG : p ≠ gs.getD y 0 := fun e => by
      have hb := hA.blk
      rw [e, hgh] at hb
      injection hb with hb
      injection hb with _ hb _
      exact absurd hb (by decide)
    have hGg : G ≠ gs.getD y 0 := fun e => by
      rw [e, hgh] at hGA
      injection hGA with hb
      injection hb with _ hb _
      exact absurd hb (by decide)
    obtain ⟨g, hgE⟩ : ∃ g, g = gs.getD y 0 := ⟨_, rfl⟩
    by_cases hlt : k < e
    · have lt1 : (k : Int) < (e : Int) := by omega
      have lt2 : (k : Int) < (n : Int) := by omega
      have hkr : k < (putTo s.sb row a k).length := by rw [putTo_len, hrow]; omega
      have HNX : Hid (∀ V, Below wr.heap.size wr V → DkAt (V.setCells g (k * 4) (words (32, 0, s.sb, 0))) N p s (rows.set y (putTo s.sb row a (k + 1)))) := fun V hV => by
        have h1 := (hA.next hV).cell y k hyl (by rw [hgy]; exact hkr) (32, 0, s.sb, 0)
        rw [hgy, putTo_next s.sb row a k (by omega) hk1, List.set_set, ← hgE] at h1
        exact ⟨_, _, _, _, _, _, _, h1⟩
      have HFR : Hid (∀ V, Below wr.heap.size wr V → (∀ i, V.frozen? ⟨g, i, none⟩ = false) ∧ CellsAt V g 0 (putTo s.sb row a k)) := fun V hV => by
        have hx := Grd.carry hgh hV
        rw [← hgE] at hx
        exact ⟨fun i => frozen_cells hx i, Grd.cellsAt_flat hx⟩
      rw [← hgE] at d1 hg hpG hGg
      have HNG : Hid (N ≤ g) := hg
      have HCE : Hid (∀ V, Below wr.heap.size wr V → V.cell? ⟨p, 22, none⟩ = some (.slice (some ⟨G, 0, none⟩) rows.length rc) ∧ V.cell? ⟨G, y, none⟩ = some (.slice (some ⟨g, 0, none⟩) n cap)) := fun V hV => ⟨cell_stay hV c22, cell_stay hV d1⟩
      have HBL : Hid (∀ V, Below wr.heap.size wr V → Calls Tryz.prog 99 #[.pointer (some ⟨p, 0, none⟩)] V fun e V' => e = .returned (.agg #[.int .i32 32, .int .i64 0, .int .i64 s.sb, .int .i64 0]) ∧ Below V.heap.size V V') := fun V hV => dblank_any p s.sb V (cell_stay hV c7)
      have HPK : Hid (p ≠ g ∧ G ≠ g) := ⟨hpG, hGg⟩
      have HNW : Hid (N ≤ wr.heap.size) := by unfold Hid; omega
      clear hA hcell hGA hgh hgy hvv hBk hg hpG hGg hgE hvl hrv hkr
      have b0 : Below wr.heap.size wr wr.drew := (Below.refl _ _).drew
      have s0 := HCE.out _ b0
      go_upto_region 3 with fail
      go_region_held3 (fun w' => w'.cell? ⟨p, 22, none⟩ = some (.slice (some ⟨G, 0, none⟩) rows.length rc) ∧ w'.cell? ⟨G, y, none⟩ = some (.slice (some ⟨g, 0, none⟩) n cap))
        (first | exact s2 | exact s1 | exact s0)
        (first | (go_at_call 99; refine (HBL.out _ b0).mono ?_; rintro e V ⟨rfl, b1⟩; have q1 := b0.trans (b1.mono b0.size); have s1 := HCE.out _ q1; obtain ⟨fr, hcs⟩ := HFR.out _ q1; obtain ⟨o0, o1, o2, o3⟩ := hcs k (by rw [putTo_len, hrow]; omega); rw [Nat.zero_add] at o0 o1 o2 o3; have f0 := fr (k * 4); have f1 := fr (k * 4 + 1); have f2 := fr (k * 4 + 2); have f3 := fr (k * 4 + 3); have s2 := wipe_cells (g := g) (x := k * 4) (vs := words (32, 0, s.sb, 0)) HPK.out.1 HPK.out.2 s1; have HV : Hid (Below wr.heap.size wr V) := q1; clear b1 fr hcs))
      go_wp2_with fail
      go_roundg (e - (k + 1))
      case measure => omega
      case rel => exact ⟨k + 1, by go_num, by omega, by omega, by omega, HNX.out _ HV.out, HBK.out.trans ((HV.out.mono HNW.out).trans (((((Below.refl _ _).setCell HNG.out _).setCell HNG.out _).setCell HNG.out _).setCell HNG.out _))⟩
    · have lt1 : ¬ (k : Int) < (e : Int) := by omega
      have hke : k = e := by omega
      subst hke
      have HMR : Hid (∀ V, Below wr.heap.size wr V → Calls Tryz.prog 100 #[.slice (some ⟨gs.getD y 0, 0, none⟩) n cap] V fun e w' => ∃ v' g', e = .returned v' ∧ V.heap.size ≤ g' ∧ RowB w' g' v' (mendL (putTo s.sb row a k)) ∧ Below V.heap.size V w') := fun V hV => by
        have hx := Grd.cellsAt_flat (Grd.carry hgh hV)
        have h := Grd.mendRow_any (gs.getD y 0) 0 cap (putTo s.sb row a k) V hx (by rw [putTo_len, hrow]; omega)
        rw [putTo_len, hrow] at h
        exact h
      have HCE : Hid (∀ V, Below wr.heap.size wr V → V.cell? ⟨p, 22, none⟩ = some (.slice (some ⟨G, 0, none⟩) rows.length rc) ∧ V.cell? ⟨G, y, none⟩ = some (.slice (some ⟨gs.getD y 0, 0, none⟩) n cap)) := fun V hV => ⟨cell_stay hV c22, cell_stay hV d1⟩
      have HPG : Hid (p ≠ G) := fun e' => by
        have hb := hA.blk
        rw [e', hGA] at hb
        injection hb with hb
        injection hb with _ hb _
        exact absurd hb (by decide)
      have HFR : Hid (∀ V, Below wr.heap.size wr V → V.frozen? ⟨G, y, none⟩ = false) := fun V hV => frozen_cells (Grd.carry hGA hV) y
      rw [show rv = _ from hrv] at hA
      have HEND : Hid (∀ V g' v', Below wr.heap.size wr V → wr.heap.size ≤ g' → RowB V g' v' (mendL (putTo s.sb row a k)) → DkAt (V.setCell ⟨G, y, none⟩ v') N p s (rows.set y (wipeRow s.sb row a k)) ∧ Below N wr (V.setCell ⟨G, y, none⟩ v')) := fun V g' v' hV hg' hr' => by
        have hl : (rows.set y (putTo s.sb row a k)).length = rows.length := List.length_set
        have h1 := DkA.row (G := G) (c := rc) (by rw [hl]; exact hA.next hV) y hyl g' v' _ (by omega) hr' (fun i hi => by have := hA.rin.lt i hi; omega) (fun i hi hn e' => by
          rcases hA.gin.2 i hi with ⟨he', -⟩ | ⟨-, b', o', c', hv', -, -, hC', -⟩
          · exact hn he'
          · rw [hv'] at e'
            have e2 : b' = g' := by simpa [blkOf] using e'
            have := lt_of_cells hC' hn
            omega)
        rw [List.set_set, ← wipe_put] at h1
        exact ⟨⟨_, _, _, _, _, _, _, h1⟩, (hV.mono (by omega)).setCell hGN _⟩
      clear hA hcell hGA hgh hgy hvv hBk hgE hvl hrv hpG hGg c7
      clear hgl hc1
      generalize gs.getD y 0 = g' at *
      have b0 : Below wr.heap.size wr wr.drew := (Below.refl _ _).drew
      go_upto_region 4 with fail
      go_region_with (first | (go_at_call 100; refine (HMR.out _ b0).mono ?_; rintro e V ⟨v', g2, rfl, hg', hr', b1⟩; have q1 := b0.trans (b1.mono b0.size); have s1 := HCE.out _ q1; obtain ⟨c1', s1'⟩ := s1; have fr := HFR.out _ q1; obtain ⟨na, nc, rfl⟩ := rowB_shape hr'; have HE : Hid _ := HEND.out V g2 _ q1 (by simpa using hg') hr'; clear b1 hr' q1 hg'))
      all_goals go_wp2_with fail
      all_goals go_end0
      all_goals exact ⟨rfl, HE.out.1, HBK.out.trans HE.out.2⟩
end Put
end Go.Proofs.YtnkeahfcpbepjaaGreatDoor

/- The reference's desk: Print. -/
namespace Go.Proofs.YtnkeahfcpbepjaaGreatDoor
open Go.ChangeShapes Go.WideShapes Go.ChangeAt Go.RowKit
namespace Put
open Grd (C SliceAt CellsAt gridErr z0 nilV flat rowsL RowB RowsAt mendL)
open Txt (wd)
/-- On the way: the desk, and what lies below it as it was. -/
def Dsk (W X : World) (N p : Nat) (s : Scr) (rows : List (List C)) : Prop := DkAt X N p s rows ∧ Bel N W X
theorem DkAt.nw {W : World} {N p : Nat} {s : Scr} {rows : List (List C)} (h : DkAt W N p s rows) : N ≤ W.heap.size := by
  obtain ⟨cv, tv, gv, rv, gvs, vs, gs, h⟩ := h
  have := h.lo
  have := heap_lt h.blk
  omega
theorem Dsk.step {W X Y : World} {N p : Nat} {s : Scr} {rows : List (List C)} (h : Dsk W X N p s rows) (hb : Below X.heap.size X Y) : Dsk W Y N p s rows := ⟨h.1.next hb, h.2.next h.1.nw hb⟩
theorem Dsk.set {W X : World} {N p : Nat} {s s' : Scr} {rows : List (List C)} (h : Dsk W X N p s rows) (i : Nat) (v : Value) (e : ∀ cv tv gv rv, (shA s cv tv gv rv).setIfInBounds i v = shA s' cv tv gv rv) (h1 : s'.tabs = s.tabs) (h2 : s'.gone = s.gone) : Dsk W (X.setCell ⟨p, i, none⟩ v) N p s' rows := ⟨h.1.set i v e h1 h2, h.2.setCell h.1.lo _⟩
theorem Dsk.drew {W X : World} {N p : Nat} {s : Scr} {rows : List (List C)} (h : Dsk W X N p s rows) : Dsk W X.drew N p s rows := h.step ((Below.refl _ _).drew)
theorem DkAt.look {W : World} {N p : Nat} {s : Scr} {rows : List (List C)} (h : DkAt W N p s rows) : W.cell? ⟨p, 6, none⟩ = some (.int .i64 s.sf) ∧ W.cell? ⟨p, 7, none⟩ = some (.int .i64 s.sb) ∧ W.cell? ⟨p, 8, none⟩ = some (.int .i64 s.sx) := by
  obtain ⟨cv, tv, gv, rv, gvs, vs, gs, h⟩ := h
  obtain ⟨⟨-, -, -, -, -, -, c6, c7, c8, -⟩, -, -⟩ := sh_cells h.blk
  exact ⟨c6, c7, c8⟩
/-- A row of a desk, opened: where it lies, and how another is put in its place. -/
structure Opened (X : World) (N p n y G rc g cap : Nat) (s : Scr) (rows : List (List C)) : Prop where
  c22 : X.cell? ⟨p, 22, none⟩ = some (.slice (some ⟨G, 0, none⟩) rows.length rc)
  d1 : X.cell? ⟨G, y, none⟩ = some (.slice (some ⟨g, 0, none⟩) n cap)
  fr : X.frozen? ⟨G, y, none⟩ = false
  cells : CellsAt X g 0 (rows.getD y [])
  cap1 : n ≤ cap
  cap2 : cap ≤ 9223372036854775807
  lo : N ≤ G
  put : ∀ V g' v' row', Below X.heap.size X V → X.heap.size ≤ g' → RowB V g' v' row' → DkAt (V.setCell ⟨G, y, none⟩ v') N p s (rows.set y row')
theorem DkAt.opened {X : World} {N p n y : Nat} {s : Scr} {rows : List (List C)} (hD : DkAt X N p s rows) (hy : y < rows.length) (hrow : (rows.getD y []).length = n) : ∃ G rc g cap, Opened X N p n y G rc g cap s rows := by
  obtain ⟨cv, tv, gv, rv, gvs, vs, gs, hA⟩ := hD
  obtain ⟨G, rc, hrv, hGN, hrc1, hrc2, hvl, hcell, A, hGA⟩ := own_cells hA.rws (by omega)
  obtain ⟨hg, cap, rest, hvv, hc1, hc2, hgh⟩ := hA.rin.2.2.2 y hy
  have d1 := hcell y hy
  rw [hvv, hrow] at d1
  rw [hrow] at hc1
  have c22 := (sh_cells hA.blk).2.1.2.2.2.2.2.2.2.2.2.2.2
  rw [hrv] at c22
  rw [hrv] at hA
  have hsz := heap_lt hA.blk
  have hlo := hA.lo
  refine ⟨G, rc, gs.getD y 0, cap, c22, d1, frozen_cells hGA y, Grd.cellsAt_flat hgh, hc1, hc2, hGN, fun V g' v' row' hV hg' hr' => ?_⟩
  have h1 := DkA.row (G := G) (c := rc) (hA.next hV) y hy g' v' row' (by omega) hr' (fun i hi => by have := hA.rin.lt i hi; omega) (fun i hi hn e' => by
    rcases hA.gin.2 i hi with ⟨he', -⟩ | ⟨-, b', o', c', hv', -, -, hC', -⟩
    · exact hn he'
    · rw [hv'] at e'
      have e2 : b' = g' := by simpa [blkOf] using e'
      have := lt_of_cells hC' hn
      omega)
  exact ⟨_, _, _, _, _, _, _, h1⟩
theorem Opened.next {X Y : World} {N p n y G rc g cap : Nat} {s : Scr} {rows : List (List C)} (h : Opened X N p n y G rc g cap s rows) (hb : Below X.heap.size X Y) : Opened Y N p n y G rc g cap s rows :=
  ⟨cell_stay hb h.c22, cell_stay hb h.d1, by
    have h0 := h.d1
    have h1 := h.fr
    have hlt : G < X.heap.size := by
      by_cases hq : G < X.heap.size
      · exact hq
      · simp [World.cell?, show X.heap[G]? = none from Array.getElem?_eq_none (by omega)] at h0
    have e := hb.block G hlt
    simp only [World.frozen?] at h1 ⊢
    rw [e]
    exact h1, h.cells.below hb, h.cap1, h.cap2, h.lo, fun V g' v' row' hV hg' hr' => h.put V g' v' row' (hb.trans (hV.mono hb.size)) (Nat.le_trans hb.size hg') hr'⟩
/-- The rows behind a rune that was printed. -/
theorem room_rows {s : Scr} {rows : List (List C)} {r : Int} {x y k : Nat} {row : List C} (hx : s.x = x) (hy : s.y = y) (hrow : row = rows.getD y []) (hyl : y < rows.length) (hk : wd r = (k : Int)) (hk12 : k = 1 ∨ k = 2) (hxk : x + k ≤ row.length) :
    (roomP s rows r).set s.y.toNat (putRune (s.sf, s.sb, s.sx) ((roomP s rows r).getD s.y.toNat []) s.x.toNat r) = rows.set y (mendL (rowY (hasB s.modes 1) (s.sf, s.sb, s.sx) row x k r)) := by
  have ex : s.x.toNat = x := by omega
  have ey : s.y.toNat = y := by omega
  have ek : (wd r).toNat = k := by omega
  unfold roomP
  rw [ex, ey, ek]
  cases hb : hasB s.modes 1 with
  | false =>
    rw [if_neg (by simp), ← hrow, ← rowY_plain _ _ _ _ _ hk12 hk hxk]
  | true =>
    rw [if_pos rfl, getD_set_same _ _ _ _ hyl, List.set_set, ← hrow, ← rowY_ins _ _ _ _ _ s.sb hk12 hk hxk]
/-- Feed of the desk is what the sheet's is. -/
theorem fed_desk {n hh : Nat} {s : Scr} {rows : List (List C)} (h : PI n hh s rows) : dfeedS { s with x := 0 } rows s.top.toNat = (fedP n s rows).1 ∧ dfeedR { s with x := 0 } rows n s.top.toNat s.bot.toNat = (fedP n s rows).2 := by
  have y1 := h.y1
  have eh := h.h
  unfold dfeedS dfeedR fedP
  by_cases hq : s.y = s.bot
  · rw [if_pos (show ({ s with x := 0 } : Scr).y = ({ s with x := 0 } : Scr).bot from hq), if_pos hq, if_pos hq]
    exact ⟨rfl, rfl⟩
  · rw [if_neg (show ¬ ({ s with x := 0 } : Scr).y = ({ s with x := 0 } : Scr).bot from hq), if_neg hq, if_neg hq]
    refine ⟨?_, rfl⟩
    unfold feedS
    dsimp only
    split
    · rw [show min (s.y + 1) (s.h - 1) = s.y + 1 by omega]
    · rw [show min (s.y + 1) (s.h - 1) = s.y by omega]
theorem dfed_any {n hh : Nat} {s : Scr} {rows : List (List C)} (h : PI n hh s rows) (X : World) (N p : Nat) (hD : DkAt X N p { s with x := 0 } rows) :
    Calls Tryz.prog 102 #[.pointer (some ⟨p, 0, none⟩)] X fun e W' => e = .returned (.tuple #[]) ∧ DkAt W' N p (fedP n s rows).1 (fedP n s rows).2 ∧ Bel N X W' := by
  have t0 := h.t0
  have t1 := h.t1
  have t2 := h.t2
  have y0 := h.y0
  have y1 := h.y1
  have h1 := h.h1
  have h2 := h.h2
  have eh := h.h
  have key := dfeed_anyI N p n s.top.toNat s.bot.toNat hh { s with x := 0 } rows X hD ⟨h.w, by show s.bot = _; omega, rfl, h.rl, h.gl⟩ (by show s.top = _; omega) h.n1 h.n2 (by omega) (by omega) h2 y0 (by show s.y ≤ 60; omega) (by show 0 ≤ s.h; omega) (by show s.h ≤ 60; omega)
  rw [(fed_desk h).1, (fed_desk h).2] at key
  exact key
set_option maxHeartbeats 4000000 in
set_option maxRecDepth 100000 in
theorem dprint_skip (N p : Nat) (s : Scr) (rows : List (List C)) (r : Int) (W : World) (hD : DkAt W N p s rows) (hsk : wd r = 0 ∨ s.w < wd r) :
    Calls Tryz.prog 104 #[.pointer (some ⟨p, 0, none⟩), .int .i32 r] W fun e W' => e = .returned (.tuple #[]) ∧ Dsk W W' N p s rows := by
  have HW := Grd.widthOf_to r W (wd r) rfl
  have HD : Hid (Dsk W W N p s rows) := ⟨hD, Bel.refl _ _⟩
  clear hD
  generalize wd r = k at *
  by_cases k0 : k = 0
  · have q0 : (k == 0) = true := by rw [beq_iff_eq]; exact k0
    clear k0 hsk
    go_enter Tryz.func104, Tryz.ntmps104
    go_wp2_with fail
    refine HW.mono ?_
    rintro e X ⟨rfl, b1⟩
    have HX : Hid (Dsk W X N p s rows) := HD.out.step b1
    clear b1 HD HW
    go_wp2_with fail
    refine bodyPost_ret (v := .tuple #[]) (results_none rfl _ _ _) rfl ?_
    exact ⟨rfl, HX.out⟩
  · have q0 : (k == 0) = false := by rw [beq_eq_false_iff_ne]; exact k0
    have q1 : s.w < k := by omega
    clear k0 hsk
    go_enter Tryz.func104, Tryz.ntmps104
    go_wp2_with fail
    refine HW.mono ?_
    rintro e X ⟨rfl, b1⟩
    have HX : Hid (Dsk W X N p s rows) := HD.out.step b1
    obtain ⟨c0, -⟩ := HX.out.1.words
    clear b1 HD HW
    go_wp2_with fail
    refine bodyPost_ret (v := .tuple #[]) (results_none rfl _ _ _) rfl ?_
    exact ⟨rfl, HX.out⟩
theorem built2 (X : World) (r sf sb sx : Int) (k : Nat) : CellsAt (X.alloc (.cells #[.int .i32 r, .int .i64 sf, .int .i64 sb, .int .i64 sx, .int .i32 0, .int .i64 sf, .int .i64 sb, .int .i64 sx] 91)).drew.drew X.heap.size 0 (cells2 (sf, sb, sx) r k) ∧ Below X.heap.size X (X.alloc (.cells #[.int .i32 r, .int .i64 sf, .int .i64 sb, .int .i64 sx, .int .i32 0, .int .i64 sf, .int .i64 sb, .int .i64 sx] 91)).drew.drew := by
  have hb : Below X.heap.size X (X.alloc (.cells #[.int .i32 r, .int .i64 sf, .int .i64 sb, .int .i64 sx, .int .i32 0, .int .i64 sf, .int .i64 sb, .int .i64 sx] 91)) := (Below.refl _ _).alloc (Nat.le_refl _) _
  have h0 := heap_alloc_new X (.cells #[.int .i32 r, .int .i64 sf, .int .i64 sb, .int .i64 sx, .int .i32 0, .int .i64 sf, .int .i64 sb, .int .i64 sx] 91)
  have hc : CellsAt (X.alloc (.cells #[.int .i32 r, .int .i64 sf, .int .i64 sb, .int .i64 sx, .int .i32 0, .int .i64 sf, .int .i64 sb, .int .i64 sx] 91)) X.heap.size 0 (cells2 (sf, sb, sx) r k) := fun j hj => by
    unfold cells2 at hj ⊢
    have hj2 : j < k ∧ j < 2 := by simpa [List.length_take, Nat.lt_min] using hj
    rw [getD_takeC _ _ _ hj2.1]
    have e : j = 0 ∨ j = 1 := by omega
    rcases e with rfl | rfl <;> refine ⟨?_, ?_, ?_, ?_⟩ <;> (unfold World.cell?; rw [h0]; rfl)
  exact ⟨hc.below (((Below.refl _ _).drew).drew), hb.drew.drew⟩
/-- Three rows behind each other, of which so many cells are wanted. -/
theorem concat3 (V : World) (g B b o x k m n c1 c2 c3 : Nat) (r1 r2 r3 : List C) (h1 : CellsAt V g 0 r1) (h2 : CellsAt V B 0 r2) (h3 : CellsAt V b o r3) (l1 : r1.length = x) (l2 : r2.length = k) (l3 : r3.length = m) (hl : n ≤ x + (k + m)) (hm : x + (k + m) ≤ 1000) (hn : 1 ≤ n) :
    Calls Tryz.prog 97 #[.slice (some ⟨V.heap.size, 0, none⟩) 3 3] (V.alloc (.cells #[.slice (some ⟨g, 0, none⟩) x c1, .slice (some ⟨B, 0, none⟩) k c2, .slice (some ⟨b, o, none⟩) m c3] 22)) fun e w' => ∃ b' o' c', e = .returned (.slice (some ⟨b', o', none⟩) (x + (k + m)) c') ∧ n ≤ c' ∧ CellsAt w' b' o' ((r1 ++ (r2 ++ r3)).take n) ∧ Below (V.alloc (.cells #[.slice (some ⟨g, 0, none⟩) x c1, .slice (some ⟨B, 0, none⟩) k c2, .slice (some ⟨b, o, none⟩) m c3] 22)).heap.size (V.alloc (.cells #[.slice (some ⟨g, 0, none⟩) x c1, .slice (some ⟨B, 0, none⟩) k c2, .slice (some ⟨b, o, none⟩) m c3] 22)) w' := by
  have kb : Below V.heap.size V (V.alloc (.cells #[.slice (some ⟨g, 0, none⟩) x c1, .slice (some ⟨B, 0, none⟩) k c2, .slice (some ⟨b, o, none⟩) m c3] 22)) := (Below.refl _ _).alloc (Nat.le_refl _) _
  have hnew := heap_alloc_new V (.cells #[.slice (some ⟨g, 0, none⟩) x c1, .slice (some ⟨B, 0, none⟩) k c2, .slice (some ⟨b, o, none⟩) m c3] 22)
  have hcell : ∀ (j : Nat) (v : Value), (#[.slice (some ⟨g, 0, none⟩) x c1, .slice (some ⟨B, 0, none⟩) k c2, .slice (some ⟨b, o, none⟩) m c3] : Array Value)[j]? = some v → (V.alloc (.cells #[.slice (some ⟨g, 0, none⟩) x c1, .slice (some ⟨B, 0, none⟩) k c2, .slice (some ⟨b, o, none⟩) m c3] 22)).cell? ⟨V.heap.size, 0 + j, none⟩ = some v := fun j v h => by
    rw [Nat.zero_add]
    unfold World.cell?
    rw [hnew]
    exact h
  have hfl : [r1, r2, r3].flatten = r1 ++ (r2 ++ r3) := by simp
  have hlen : (r1 ++ (r2 ++ r3)).length = x + (k + m) := by rw [List.length_append, List.length_append, l1, l2, l3]
  have key := concat_any V.heap.size 0 3 [r1, r2, r3] (V.alloc (.cells #[.slice (some ⟨g, 0, none⟩) x c1, .slice (some ⟨B, 0, none⟩) k c2, .slice (some ⟨b, o, none⟩) m c3] 22)) (fun j hj => by
    have hj3 : j < 3 := hj
    match j, hj3 with
    | 0, _ => exact ⟨g, 0, c1, by show World.cell? _ _ = some (Value.slice _ r1.length c1); rw [l1]; exact hcell 0 _ rfl, h1.below kb⟩
    | 1, _ => exact ⟨B, 0, c2, by show World.cell? _ _ = some (Value.slice _ r2.length c2); rw [l2]; exact hcell 1 _ rfl, h2.below kb⟩
    | 2, _ => exact ⟨b, o, c3, by show World.cell? _ _ = some (Value.slice _ r3.length c3); rw [l3]; exact hcell 2 _ rfl, h3.below kb⟩) (r1 ++ (r2 ++ r3)) hfl (by rw [hlen]; omega) (by simp)
  refine Calls.mono key ?_
  rintro e w' ⟨v', rfl, hO, hb⟩
  rw [hlen] at hO
  have hO2 : w'.ownsRow (V.alloc (.cells #[.slice (some ⟨g, 0, none⟩) x c1, .slice (some ⟨B, 0, none⟩) k c2, .slice (some ⟨b, o, none⟩) m c3] 22)).heap.size 91 4 v' (r1 ++ (r2 ++ r3)).length (flat (r1 ++ (r2 ++ r3))) := by rw [hlen]; exact hO
  rcases OwnC.of hO2 with ⟨he, -⟩ | ⟨gg, cap, rest, ⟨t, ht⟩, hv', hg1, hg2, hg3, hg4⟩
  · have h5 := congrArg List.length he
    rw [hlen, List.length_nil] at h5
    omega
  · subst ht
    rw [hlen] at hg2 hv'
    refine ⟨gg, 0, cap, by rw [hv'], by omega, ?_, hb⟩
    have hC := Grd.cellsAt_flat hg4
    have h := hC.part 0 n (by rw [hlen]; omega)
    rw [Nat.zero_mul, Nat.zero_add, List.drop_zero] at h
    exact h
/-- What is left of a sequence. -/
def dropC : Nat → Code → Code
  | 0, c => c
  | k + 1, .seq _ b => dropC k b
  | _ + 1, c => c
noncomputable def printTail : Code := dropC 4 (Tryz.f104.body.getD .skip)
noncomputable def printEnd : Code := dropC 10 (Tryz.f104.body.getD .skip)
end Put
end Go.Proofs.YtnkeahfcpbepjaaGreatDoor

/- The reference's desk: Print, from where a row is mended. (Written by gen_printdesk.py.) -/
namespace Go.Proofs.YtnkeahfcpbepjaaGreatDoor
open Go.ChangeShapes Go.WideShapes Go.ChangeAt Go.RowKit
namespace Put
open Grd (C SliceAt CellsAt gridErr z0 nilV flat rowsL RowB RowsAt mendL)
open Txt (wd)
set_option linter.unusedVariables false in
set_option maxHeartbeats 8000000 in
set_option maxRecDepth 1000000 in
theorem dprint_end {n hh k x y b3 o3 c3' G rc g cap : Nat} {s s1 : Scr} {rows1 : List (List C)} {q : Scr × List (List C)} {row row2 : List C} {W Z : World} {N p : Nat} {r : Int} {ins : Bool} (hD : Dsk W Z N p s1 rows1) (HPT : Hid (PI n hh s1 rows1)) (HMT : Hid (s1.modes = s.modes)) (hm0 : 0 ≤ s.modes) (hm1 : s.modes ≤ 63) (HK : Hid (wd r = (k : Int))) (HKR : Hid (0 ≤ (k : Int) ∧ (k : Int) ≤ 2)) (HKP : Hid (0 < k)) (hn1 : 1 ≤ n) (hn2 : n ≤ 120) (HXY : Hid (s1.x = (x : Int) ∧ s1.y = (y : Int) ∧ s1.w = n ∧ row = rows1.getD y [] ∧ row.length = n)) (hyl : y < rows1.length) (hxk : x + k ≤ n)
    (HOP3 : Hid (Opened Z N p n y G rc g cap s1 rows1)) (HIN : Hid (ins = hasB s1.modes 1)) (HRR : Hid (rowY ins (s1.sf, s1.sb, s1.sx) row x k r = row2)) (HML : Hid (row2.length = n)) (HC3 : Hid (CellsAt Z b3 o3 row2))
    (HPR : Hid (q = ({ advS s1 (k : Int) with last := r }, (roomP s1 rows1 r).set s1.y.toNat (putRune (s1.sf, s1.sb, s1.sx) ((roomP s1 rows1 r).getD s1.y.toNat []) s1.x.toNat r)))) (u2 u3 u5 u6 u7 u8 u10 u11 u12 u13 u14 u15 u16 u17 u18 u19 u20 u21 u22 u23 u24 u25 u26 u27 u28 u29 u30 u31 u32 u33 u34 u35 u36 u37 u38 u39 u40 u41 u42 u43 u44 u45 u46 u47 u48 u49 u50 u51 u52 u53 u54 u55 u56 u57 u58 u59 u60 u61 u62 u63 u64 u65 u66 u67 u68 u69 u70 u71 u72 u73 u74 u75 u76 u77 u78 u79 u80 u81 u82 u83 u84 u85 u86 u87 u88 u89 u90 u91 u92 u93 u94 u95 u96 u97 u98 u99 u100 u101 u102 u103 u104 u105 u106 u107 u108 u109 u110 u111 u112 u113 u114 u115 u116 u117 u118 u119 u120 u121 u122 u123 u124 u125 u126 u127 u128 u129 u130 u131 u132 u133 u134 u135 u136 u137 u138 u139 u140 u141 u142 u143 u144 u145 u146 u147 u148 u149 u150 u151 u152 u153 u154 u155 u156 u157 u158 u159 u160 u161 u162 u163 u164 u165 u166 u167 u168 u169 u170 u171 u172 u173 u174 u175 u176 u177 u178 u179 u180 u181 u182 u183 u184 u185 u186 u187 u188 u189 u190 : Value) :
    Code.wp Tryz.prog printEnd (bodyPost Tryz.prog Tryz.f104 fun e W' => e = .returned (.tuple #[]) ∧ Dsk W W' N p q.1 q.2) ⟨List.toArray ((.pointer (some ⟨p, 0, none⟩)) :: (.int .i32 r) :: u2 :: u3 :: (.int .i64 (k : Int)) :: u5 :: u6 :: u7 :: u8 :: (.slice (some ⟨b3, o3, none⟩) n c3') :: u10 :: u11 :: u12 :: u13 :: u14 :: u15 :: u16 :: u17 :: u18 :: u19 :: u20 :: u21 :: u22 :: u23 :: u24 :: u25 :: u26 :: u27 :: u28 :: u29 :: u30 :: u31 :: u32 :: u33 :: u34 :: u35 :: u36 :: u37 :: u38 :: u39 :: u40 :: u41 :: u42 :: u43 :: u44 :: u45 :: u46 :: u47 :: u48 :: u49 :: u50 :: u51 :: u52 :: u53 :: u54 :: u55 :: u56 :: u57 :: u58 :: u59 :: u60 :: u61 :: u62 :: u63 :: u64 :: u65 :: u66 :: u67 :: u68 :: u69 :: u70 :: u71 :: u72 :: u73 :: u74 :: u75 :: u76 :: u77 :: u78 :: u79 :: u80 :: u81 :: u82 :: u83 :: u84 :: u85 :: u86 :: u87 :: u88 :: u89 :: u90 :: u91 :: u92 :: u93 :: u94 :: u95 :: u96 :: u97 :: u98 :: u99 :: u100 :: u101 :: u102 :: u103 :: u104 :: u105 :: u106 :: u107 :: u108 :: u109 :: u110 :: u111 :: u112 :: u113 :: u114 :: u115 :: u116 :: u117 :: u118 :: u119 :: u120 :: u121 :: u122 :: u123 :: u124 :: u125 :: u126 :: u127 :: u128 :: u129 :: u130 :: u131 :: u132 :: u133 :: u134 :: u135 :: u136 :: u137 :: u138 :: u139 :: u140 :: u141 :: u142 :: u143 :: u144 :: u145 :: u146 :: u147 :: u148 :: u149 :: u150 :: u151 :: u152 :: u153 :: u154 :: u155 :: u156 :: u157 :: u158 :: u159 :: u160 :: u161 :: u162 :: u163 :: u164 :: u165 :: u166 :: u167 :: u168 :: u169 :: u170 :: u171 :: u172 :: u173 :: u174 :: u175 :: u176 :: u177 :: u178 :: u179 :: u180 :: u181 :: u182 :: u183 :: u184 :: u185 :: u186 :: u187 :: u188 :: u189 :: u190 :: []), []⟩ Z := by
  have HDK : Hid (Dsk W Z N p s1 rows1) := hD
  have hyI : (0 : Int) ≤ (y : Int) := by omega
  have hyI2 : (y : Int) < (rows1.length : Int) := by omega
  have hwxk : IntKind.i64.wrap ((x : Int) + (k : Int)) = (x : Int) + (k : Int) := wrap_id _ (by omega) (by omega)
  clear hD
  conv => arg 2; whnf
  go_upto_region 14 with fail
  go_cut [] from 10 to 190 (fun wx => Dsk W wx N p s1 (rows1.set y (mendL row2)))
  case first =>
    have b0 : Below Z.heap.size Z Z.drew := (Below.refl _ _).drew
    have SKZ : Hid (∀ V, Below Z.heap.size Z V → (V.cell? ⟨p, 22, none⟩ = some (.slice (some ⟨G, 0, none⟩) rows1.length rc) ∧ V.cell? ⟨p, 4, none⟩ = some (.int .i64 (y : Int)) ∧ V.cell? ⟨G, y, none⟩ = some (.slice (some ⟨g, 0, none⟩) n cap)) ∧ V.frozen? ⟨G, y, none⟩ = false) := fun V hV => by
      have hDV := HDK.out.1.next hV
      have hOV := HOP3.out.next hV
      obtain ⟨-, -, -, c4, -⟩ := hDV.words
      rw [HXY.out.2.1] at c4
      exact ⟨⟨hOV.c22, c4, hOV.d1⟩, hOV.fr⟩
    have HMR : Hid (∀ V, Below Z.heap.size Z V → Calls Tryz.prog 100 #[.slice (some ⟨b3, o3, none⟩) n c3'] V fun e w' => ∃ v' g', e = .returned v' ∧ V.heap.size ≤ g' ∧ RowB w' g' v' (mendL row2) ∧ Below V.heap.size V w') := fun V hV => by
      have h := Grd.mendRow_any b3 o3 c3' row2 V (HC3.out.below hV) (by rw [HML.out]; omega)
      rw [HML.out] at h
      exact h
    have SY : Hid (∀ V, Below Z.heap.size Z V → V.cell? ⟨p, 22, none⟩ = some (.slice (some ⟨G, 0, none⟩) rows1.length rc) ∧ V.cell? ⟨p, 4, none⟩ = some (.int .i64 (y : Int)) ∧ V.cell? ⟨G, y, none⟩ = some (.slice (some ⟨g, 0, none⟩) n cap) ∧ V.frozen? ⟨G, y, none⟩ = false) := fun V hV => by
      obtain ⟨⟨c22, c4, d1⟩, fr⟩ := SKZ.out V hV
      exact ⟨c22, c4, d1, fr⟩
    have HEND : Hid (∀ V g' v', Below Z.heap.size Z V → Z.heap.size ≤ g' → RowB V g' v' (mendL row2) → Dsk W (V.setCell ⟨G, y, none⟩ v') N p s1 (rows1.set y (mendL row2))) := fun V g' v' hV hg' hr' =>
      ⟨HOP3.out.put V g' v' _ hV hg' hr', (HDK.out.2.next HDK.out.1.nw hV).setCell HOP3.out.lo _⟩
    clear HC3 HOP3 HDK SKZ
    obtain ⟨e22, e4, ed, ef⟩ := SY.out _ b0
    go_region_with (first | (go_at_call 100; refine (HMR.out _ b0).mono ?_; rintro e V ⟨v', g2, rfl, hg', hr', b1⟩; have q1 := b0.trans (b1.mono b0.size); obtain ⟨t22, t4, td, tf⟩ := SY.out _ q1; obtain ⟨na, nc, rfl⟩ := rowB_shape hr'; have HE : Hid _ := HEND.out V g2 _ q1 (by simpa using hg') hr'; clear b1 hr' q1 hg'))
    all_goals go_wp2_with fail
    all_goals go_meet
    all_goals exact HE.out
  case rest =>
    obtain ⟨rows2, hr2⟩ : ∃ rows2, rows2 = rows1.set y (mendL row2) := ⟨_, rfl⟩
    have HQ : Hid (q = ({ advS s1 (k : Int) with last := r }, rows2)) := by
      unfold Hid
      rw [HPR.out, room_rows HXY.out.1 HXY.out.2.1 HXY.out.2.2.2.1 hyl HK.out (by have := HKR.out.2; have := HKP.out; omega) (by rw [HXY.out.2.2.2.2]; exact hxk), hr2, ← HRR.out, HIN.out]
    rw [← hr2] at hcut
    have HD0 : Hid (Dsk W wc N p s1 rows2) := hcut
    have hb4 := (has_bits s.modes hm0 hm1).2.2
    rw [← HMT.out] at hb4
    have HB4 : Hid (hasB s1.modes 4 = !(bits .and .i64 s1.modes 4 == 0)) := hb4
    obtain ⟨-, -, c3, -, -, -, -, -, -, f⟩ := HD0.out.1.words
    rw [HXY.out.1] at c3
    have f3 := f 3
    have HD1 : Hid (Dsk W (wc.setCell ⟨p, 3, none⟩ (.int .i64 ((x : Int) + (k : Int)))) N p { s1 with x := ((x : Int) + (k : Int)) } rows2) := HD0.out.set 3 _ (fun _ _ _ _ => rfl) rfl rfl
    clear hb4 hcut hr2 HD0 f HPR HRR HOP3 HDK HC3 HML HIN
    go_upto_region 16 with fail
    generalize (wc.setCell ⟨p, 3, none⟩ (.int .i64 ((x : Int) + (k : Int)))) = U at *
    clear c3 f3
    obtain ⟨c0, -, c3, -, c5, -, -, c11, c19, f⟩ := HD1.out.1.words
    replace c3 : U.cell? ⟨p, 3, none⟩ = some (.int .i64 ((x : Int) + (k : Int))) := c3
    replace c11 : U.cell? ⟨p, 11, none⟩ = some (.int .i64 s1.modes) := c11
    replace c0 : U.cell? ⟨p, 0, none⟩ = some (.int .i64 s1.w) := c0
    rw [HXY.out.2.2.1] at c0
    by_cases hq : x + k = n
    · have hqI : (((x : Int) + (k : Int)) == (n : Int)) = true := by rw [beq_iff_eq]; omega
      have HA : Hid (advS s1 (k : Int) = { s1 with x := (n : Int) - 1, late := !(bits .and .i64 s1.modes 4 == 0) }) := by
        unfold Hid advS
        rw [if_pos (by rw [HXY.out.1, HXY.out.2.2.1]; omega), HXY.out.2.2.1, HB4.out]
      have HN : Hid (x + k = n) := hq
      clear hq
      go_region
      have HD2 : Hid (Dsk W U.drew N p { s1 with x := ((x : Int) + (k : Int)) } rows2) := HD1.out.drew
      clear c0 c3 c5 c11 c19 f HD1
      generalize U.drew = Y2 at *
      obtain ⟨-, -, c3, -, -, -, -, -, -, f⟩ := HD2.out.1.words
      replace c3 : Y2.cell? ⟨p, 3, none⟩ = some (.int .i64 ((x : Int) + (k : Int))) := c3
      have f3 := f 3
      have hwm : IntKind.i64.wrap (((x : Int) + (k : Int)) - 1) = (n : Int) - 1 := by have := HN.out; rw [wrap_id _ (by omega) (by omega)]; omega
      have HD3 : Hid (Dsk W (Y2.setCell ⟨p, 3, none⟩ (.int .i64 ((n : Int) - 1))) N p { s1 with x := (n : Int) - 1 } rows2) := HD2.out.set 3 _ (fun _ _ _ _ => rfl) rfl rfl
      clear HD2 f
      go_upto_region 18 with fail
      generalize (Y2.setCell ⟨p, 3, none⟩ (.int .i64 ((n : Int) - 1))) = Y3 at *
      clear c3 f3
      obtain ⟨-, -, -, -, c5, -, -, c11, -, f⟩ := HD3.out.1.words
      replace c11 : Y3.cell? ⟨p, 11, none⟩ = some (.int .i64 s1.modes) := c11
      have f5 := f 5
      have HD4 : Hid (Dsk W (Y3.setCell ⟨p, 5, none⟩ (.bool (bits .and .i64 s1.modes 4 != 0))) N p { s1 with x := (n : Int) - 1, late := (bits .and .i64 s1.modes 4 != 0) } rows2) := HD3.out.set 5 _ (fun _ _ _ _ => rfl) rfl rfl
      clear HD3 f
      go_upto_region 19 with fail
      generalize (Y3.setCell ⟨p, 5, none⟩ (.bool (bits .and .i64 s1.modes 4 != 0))) = Y4 at *
      clear c5 c11 f5
      obtain ⟨-, -, -, -, -, -, -, -, c19, f⟩ := HD4.out.1.words
      have f19 := f 19
      have HD5 : Hid (Dsk W (Y4.setCell ⟨p, 19, none⟩ (.int .i32 r)) N p { s1 with x := (n : Int) - 1, late := (bits .and .i64 s1.modes 4 != 0), last := r } rows2) := HD4.out.set 19 _ (fun _ _ _ _ => rfl) rfl rfl
      clear HD4 f
      go_wp2_with fail
      go_end0
      rw [HQ.out, HA.out]
      exact ⟨rfl, HD5.out⟩
    · have hqI : (((x : Int) + (k : Int)) == (n : Int)) = false := by rw [beq_eq_false_iff_ne]; omega
      have HA : Hid (advS s1 (k : Int) = { s1 with x := ((x : Int) + (k : Int)) }) := by
        unfold Hid advS
        rw [if_neg (by rw [HXY.out.1, HXY.out.2.2.1]; omega), HXY.out.1]
      clear hq
      go_region
      have HD2 : Hid (Dsk W U.drew N p { s1 with x := ((x : Int) + (k : Int)) } rows2) := HD1.out.drew
      clear c0 c3 c5 c11 c19 f HD1
      generalize U.drew = Y2 at *
      obtain ⟨-, -, -, -, -, -, -, -, c19, f⟩ := HD2.out.1.words
      have f19 := f 19
      have HD5 : Hid (Dsk W (Y2.setCell ⟨p, 19, none⟩ (.int .i32 r)) N p { s1 with x := ((x : Int) + (k : Int)), last := r } rows2) := HD2.out.set 19 _ (fun _ _ _ _ => rfl) rfl rfl
      clear HD2 f
      go_wp2_with fail
      go_end0
      rw [HQ.out, HA.out]
      exact ⟨rfl, HD5.out⟩
end Put
end Go.Proofs.YtnkeahfcpbepjaaGreatDoor

/- The reference's desk: Print, from where it is known whether there is room. (Written by gen_printdesk.py.) -/
namespace Go.Proofs.YtnkeahfcpbepjaaGreatDoor
open Go.ChangeShapes Go.WideShapes Go.ChangeAt Go.RowKit
namespace Put
open Grd (C SliceAt CellsAt gridErr z0 nilV flat rowsL RowB RowsAt mendL)
open Txt (wd)
set_option linter.unusedVariables false in
set_option maxHeartbeats 8000000 in
set_option maxRecDepth 1000000 in
theorem dprint_mid {n hh k : Nat} {s s1 : Scr} {rows1 : List (List C)} {q : Scr × List (List C)} {W wc : World} {N p : Nat} {r : Int} (hD : Dsk W wc N p s1 rows1) (HPT : Hid (PI n hh s1 rows1)) (HMT : Hid (s1.modes = s.modes)) (hm0 : 0 ≤ s.modes) (hm1 : s.modes ≤ 63) (HK : Hid (wd r = (k : Int))) (HKR : Hid (0 ≤ (k : Int) ∧ (k : Int) ≤ 2)) (HKP : Hid (0 < k)) (hn1 : 1 ≤ n) (hn2 : n ≤ 120) (hmm : s1.modes = s.modes)
    (HPR : Hid (q = if fitsB s1 (k : Int) = false then (s1, rows1) else ({ advS s1 (k : Int) with last := r }, (roomP s1 rows1 r).set s1.y.toNat (putRune (s1.sf, s1.sb, s1.sx) ((roomP s1 rows1 r).getD s1.y.toNat []) s1.x.toNat r)))) (u2 u3 u6 u7 u8 u9 u10 u11 u12 u13 u14 u15 u16 u17 u18 u19 u20 u21 u22 u23 u24 u25 u26 u27 u28 u29 u30 u31 u32 u33 u34 u35 u36 u37 u38 u39 u40 u41 u42 u43 u44 u45 u46 u47 u48 u49 u50 u51 u52 u53 u54 u55 u56 u57 u58 u59 u60 u61 u62 u63 u64 u65 u66 u67 u68 u69 u70 u71 u72 u73 u74 u75 u76 u77 u78 u79 u80 u81 u82 u83 u84 u85 u86 u87 u88 u89 u90 u91 u92 u93 u94 u95 u96 u97 u98 u99 u100 u101 u102 u103 u104 u105 u106 u107 u108 u109 u110 u111 u112 u113 u114 u115 u116 u117 u118 u119 u120 u121 u122 u123 u124 u125 u126 u127 u128 u129 u130 u131 u132 u133 u134 u135 u136 u137 u138 u139 u140 u141 u142 u143 u144 u145 u146 u147 u148 u149 u150 u151 u152 u153 u154 u155 u156 u157 u158 u159 u160 u161 u162 u163 u164 u165 u166 u167 u168 u169 u170 u171 u172 u173 u174 u175 u176 u177 u178 u179 u180 u181 u182 u183 u184 u185 u186 u187 u188 u189 u190 : Value) :
    Code.wp Tryz.prog printTail (bodyPost Tryz.prog Tryz.f104 fun e W' => e = .returned (.tuple #[]) ∧ Dsk W W' N p q.1 q.2) ⟨List.toArray ((.pointer (some ⟨p, 0, none⟩)) :: (.int .i32 r) :: u2 :: u3 :: (.int .i64 (k : Int)) :: (.bool (fitsB s1 (k : Int))) :: u6 :: u7 :: u8 :: u9 :: u10 :: u11 :: u12 :: u13 :: u14 :: u15 :: u16 :: u17 :: u18 :: u19 :: u20 :: u21 :: u22 :: u23 :: u24 :: u25 :: u26 :: u27 :: u28 :: u29 :: u30 :: u31 :: u32 :: u33 :: u34 :: u35 :: u36 :: u37 :: u38 :: u39 :: u40 :: u41 :: u42 :: u43 :: u44 :: u45 :: u46 :: u47 :: u48 :: u49 :: u50 :: u51 :: u52 :: u53 :: u54 :: u55 :: u56 :: u57 :: u58 :: u59 :: u60 :: u61 :: u62 :: u63 :: u64 :: u65 :: u66 :: u67 :: u68 :: u69 :: u70 :: u71 :: u72 :: u73 :: u74 :: u75 :: u76 :: u77 :: u78 :: u79 :: u80 :: u81 :: u82 :: u83 :: u84 :: u85 :: u86 :: u87 :: u88 :: u89 :: u90 :: u91 :: u92 :: u93 :: u94 :: u95 :: u96 :: u97 :: u98 :: u99 :: u100 :: u101 :: u102 :: u103 :: u104 :: u105 :: u106 :: u107 :: u108 :: u109 :: u110 :: u111 :: u112 :: u113 :: u114 :: u115 :: u116 :: u117 :: u118 :: u119 :: u120 :: u121 :: u122 :: u123 :: u124 :: u125 :: u126 :: u127 :: u128 :: u129 :: u130 :: u131 :: u132 :: u133 :: u134 :: u135 :: u136 :: u137 :: u138 :: u139 :: u140 :: u141 :: u142 :: u143 :: u144 :: u145 :: u146 :: u147 :: u148 :: u149 :: u150 :: u151 :: u152 :: u153 :: u154 :: u155 :: u156 :: u157 :: u158 :: u159 :: u160 :: u161 :: u162 :: u163 :: u164 :: u165 :: u166 :: u167 :: u168 :: u169 :: u170 :: u171 :: u172 :: u173 :: u174 :: u175 :: u176 :: u177 :: u178 :: u179 :: u180 :: u181 :: u182 :: u183 :: u184 :: u185 :: u186 :: u187 :: u188 :: u189 :: u190 :: []), []⟩ wc := by
  have HZ : Hid (Dsk W wc N p s1 rows1) := hD
  clear hD hmm
  conv => arg 2; whnf
  cases hf : fitsB s1 (k : Int) with
  | false =>
    have HE : Hid (q = (s1, rows1)) := by unfold Hid; rw [HPR.out, hf, if_pos rfl]
    go_wp2_with fail
    refine bodyPost_ret (v := .tuple #[]) (results_none rfl _ _ _) rfl ?_
    rw [HE.out]
    exact ⟨rfl, HZ.out⟩
  | true =>
    have hP1 := HPT.out
    have hxx := hP1.x0
    have hyy := hP1.y0
    have hy1 := hP1.y1
    have hrl := hP1.rl
    have hw1 := hP1.w
    have hkr := HKR.out
    have hfk : (k : Int) ≤ s1.w - s1.x := by simpa [fitsB] using hf
    obtain ⟨x, hx⟩ : ∃ x : Nat, s1.x = (x : Int) := ⟨s1.x.toNat, by omega⟩
    obtain ⟨y, hy⟩ : ∃ y : Nat, s1.y = (y : Int) := ⟨s1.y.toNat, by omega⟩
    have hyl : y < rows1.length := by omega
    have hrow := hP1.rr y hyl
    have hxk : x + k ≤ n := by omega
    obtain ⟨G, rc, g, cap, hO⟩ := HZ.out.1.opened hyl hrow.1
    obtain ⟨row, hrw⟩ : ∃ row, row = rows1.getD y [] := ⟨_, rfl⟩
    have hrlen : row.length = n := by rw [hrw]; exact hrow.1
    have HCE : Hid (CellsAt wc g 0 row) := by unfold Hid; rw [hrw]; exact hO.cells
    have SK : Hid (∀ V, Below wc.heap.size wc V → (V.cell? ⟨p, 22, none⟩ = some (.slice (some ⟨G, 0, none⟩) rows1.length rc) ∧ V.cell? ⟨p, 4, none⟩ = some (.int .i64 (y : Int)) ∧ V.cell? ⟨G, y, none⟩ = some (.slice (some ⟨g, 0, none⟩) n cap)) ∧ V.cell? ⟨p, 3, none⟩ = some (.int .i64 (x : Int)) ∧ V.cell? ⟨p, 0, none⟩ = some (.int .i64 (n : Int)) ∧ V.cell? ⟨p, 11, none⟩ = some (.int .i64 s1.modes) ∧ (V.cell? ⟨p, 6, none⟩ = some (.int .i64 s1.sf) ∧ V.cell? ⟨p, 7, none⟩ = some (.int .i64 s1.sb) ∧ V.cell? ⟨p, 8, none⟩ = some (.int .i64 s1.sx)) ∧ V.frozen? ⟨G, y, none⟩ = false) := fun V hV => by
      have hDV := HZ.out.1.next hV
      have hOV := hO.next hV
      obtain ⟨c0, -, c3, c4, -, -, -, c11, -, -⟩ := hDV.words
      rw [hw1] at c0
      rw [hx] at c3
      rw [hy] at c4
      exact ⟨⟨hOV.c22, c4, hOV.d1⟩, c3, c0, c11, hDV.look, hOV.fr⟩
    have HOP : Hid (Opened wc N p n y G rc g cap s1 rows1) := hO
    have hcap1 := hO.cap1
    have hcap2 := hO.cap2
    have hyI : (0 : Int) ≤ (y : Int) := by omega
    have hyI2 : (y : Int) < (rows1.length : Int) := by omega
    have HXY : Hid (s1.x = (x : Int) ∧ s1.y = (y : Int) ∧ s1.w = n ∧ row = rows1.getD y [] ∧ row.length = n) := ⟨hx, hy, hw1, hrw, hrlen⟩
    have HTL : Hid (n ≤ 120) := hn2
    have hwxk : IntKind.i64.wrap ((x : Int) + (k : Int)) = ((x + k : Nat) : Int) := by rw [wrap_id _ (by omega) (by omega)]; omega
    have HFS : Hid (fitsB s1 (k : Int) = true) := hf
    clear hO hrow hP1 hxx hyy hy1 hx hy hw1 hrw hfk hkr hf
    go_upto_region 8 with fail
    generalize hwcX : wc = X at *
    clear hwcX
    obtain ⟨⟨c22, c4, d1⟩, -⟩ := SK.out X (Below.refl _ _)
    go_region
    clear c22 c4 d1
    have b0 : Below X.heap.size X X.drew := (Below.refl _ _).drew
    go_upto_region 9 with fail
    go_cut [7] from 10 to 190 (fun c wx => ∃ B, c = .slice (some ⟨B, 0, none⟩) k 2 ∧ CellsAt wx B 0 (cells2 (s1.sf, s1.sb, s1.sx) r k) ∧ Below X.heap.size X wx)
    case first =>
      obtain ⟨-, -, -, -, ⟨c6, c7, c8⟩, -⟩ := SK.out _ b0
      have hk2 : (k : Int) ≤ 2 := HKR.out.2
      have HA : Hid _ := built2 X r s1.sf s1.sb s1.sx k
      go_region
      go_wp2_with fail
      go_meet
      exact ⟨_, rfl, HA.out⟩
    case rest =>
      obtain ⟨B, rfl, hcB, hbB⟩ := hcut
      have HCB : Hid (CellsAt wc B 0 (cells2 (s1.sf, s1.sb, s1.sx) r k)) := hcB
      have HBB : Hid (Below X.heap.size X wc) := hbB
      clear hcB hbB b0
      generalize hwcY : wc = Y at *
      clear hwcY
      go_upto_region 10 with fail
      go_cut [6, 8] from 10 to 190 (fun c6 c wx => c6 = .slice (some ⟨g, 0, none⟩) n cap ∧ Y = wx ∧ ∃ b o c', c = .slice (some ⟨b, o, none⟩) (n - (x + k)) c' ∧ CellsAt Y b o (row.drop (x + k)))
      case first =>
        obtain ⟨-, c3, -⟩ := SK.out _ HBB.out
        have hlo1 : ((x + k : Nat) : Int) ≤ (n : Int) := by omega
        have hlo2 : (0 : Int) ≤ ((x + k : Nat) : Int) := by omega
        have HC1 : Hid (CellsAt Y g ((x + k) * 4) (row.drop (x + k))) := by
          have h := (HCE.out.below HBB.out).part (x + k) (n - (x + k)) (by have := HXY.out.2.2.2.2; omega)
          rwa [Nat.zero_add, List.take_of_length_le (by rw [List.length_drop]; have := HXY.out.2.2.2.2; omega)] at h
        have HC2 : Hid (¬ x + k < cap → ∀ b o, CellsAt Y b o (row.drop (x + k))) := fun hc b o j hj => by
          rw [List.length_drop, HXY.out.2.2.2.2] at hj
          omega
        by_cases hc : x + k < cap
        · have hcI : ((x + k : Nat) : Int) < (cap : Int) := by omega
          go_wp2_with fail
          go_meet
          exact ⟨rfl, rfl, _, _, _, rfl, HC1.out⟩
        · have hcI : ¬ ((x + k : Nat) : Int) < (cap : Int) := by omega
          have HCQ : Hid (x + k = cap) := by unfold Hid; omega
          go_wp2_with fail
          go_meet
          exact ⟨by rw [HCQ.out], rfl, _, _, _, rfl, HC2.out (by rw [HCQ.out]; exact Nat.lt_irrefl _) _ _⟩
      case rest =>
        obtain ⟨rfl, rfl, b1, o1, c1, rfl, hT1⟩ := hcut
        have HT1 : Hid (CellsAt Y b1 o1 (row.drop (x + k))) := hT1
        clear hT1
        obtain ⟨ins, hins⟩ : ∃ ins, ins = hasB s1.modes 1 := ⟨_, rfl⟩
        have HIN : Hid (ins = hasB s1.modes 1) := hins
        have hbi : ins = !(bits .and .i64 s1.modes 1 == 0) := by rw [hins, HMT.out]; exact (has_bits s.modes hm0 hm1).1
        clear hins
        obtain ⟨-, -, -, c11, -⟩ := SK.out _ HBB.out
        go_upto_if 106 with fail
        go_cut [8] from 10 to 190 (fun c wx => Y = wx ∧ ∃ b o c', c = .slice (some ⟨b, o, none⟩) (tailR ins row x k).length c' ∧ CellsAt Y b o (tailR ins row x k))
        case first =>
          cases hq : (bits .and .i64 s1.modes 1 == 0) with
          | true =>
            have HI : Hid (ins = false) := by unfold Hid; rw [hbi, hq]; rfl
            have hqb : (bits .and .i64 s1.modes 1 != 0) = false := by rw [bne, hq]; rfl
            have HL : Hid (n - (x + k) = (tailR ins row x k).length) := by unfold Hid tailR; rw [HI.out, if_neg (by decide), List.length_drop, HXY.out.2.2.2.2]
            clear hbi c11
            go_wp2_with fail
            go_meet
            exact ⟨rfl, b1, o1, c1, by rw [HL.out], by unfold tailR; rw [HI.out, if_neg (by decide)]; exact HT1.out⟩
          | false =>
            have HI : Hid (ins = true) := by unfold Hid; rw [hbi, hq]; rfl
            have hqb : (bits .and .i64 s1.modes 1 != 0) = true := by rw [bne, hq]; rfl
            have HL : Hid (n - x = (tailR ins row x k).length) := by unfold Hid tailR; rw [HI.out, if_pos rfl, List.length_drop, HXY.out.2.2.2.2]
            have HC3 : Hid (CellsAt Y g (x * 4) (tailR ins row x k)) := by
              have h := (HCE.out.below HBB.out).part x (n - x) (by have := HXY.out.2.2.2.2; omega)
              rw [Nat.zero_add, List.take_of_length_le (by rw [List.length_drop]; have := HXY.out.2.2.2.2; omega)] at h
              unfold Hid tailR
              rw [HI.out, if_pos rfl]
              exact h
            clear hbi c11
            obtain ⟨-, c3, -⟩ := SK.out _ HBB.out
            have hx1 : (x : Int) ≤ (n : Int) := by omega
            have hx2 : x < cap := by have := HKP.out; omega
            have hx3 : (x : Int) < (cap : Int) := by omega
            go_wp2_with fail
            go_meet
            exact ⟨rfl, g, x * 4, cap - x, by rw [← HL.out], HC3.out⟩
        case rest =>
          obtain ⟨rfl, b2, o2, c2, rfl, hT2⟩ := hcut
          have HT2 : Hid (CellsAt Y b2 o2 (tailR ins row x k)) := hT2
          clear hT2 HT1 hbi c11
          obtain ⟨m, hm⟩ : ∃ m, m = (tailR ins row x k).length := ⟨_, rfl⟩
          rw [← hm]
          have HCN : Hid (∀ V : World, Below Y.heap.size Y V → Calls Tryz.prog 97 #[.slice (some ⟨V.heap.size, 0, none⟩) 3 3] (V.alloc (.cells #[.slice (some ⟨g, 0, none⟩) x cap, .slice (some ⟨B, 0, none⟩) k 2, .slice (some ⟨b2, o2, none⟩) m c2] 22)) fun e w' => ∃ b o c', e = .returned (.slice (some ⟨b, o, none⟩) (x + (k + m)) c') ∧ n ≤ c' ∧ CellsAt w' b o (rowY ins (s1.sf, s1.sb, s1.sx) row x k r) ∧ Below (V.alloc (.cells #[.slice (some ⟨g, 0, none⟩) x cap, .slice (some ⟨B, 0, none⟩) k 2, .slice (some ⟨b2, o2, none⟩) m c2] 22)).heap.size (V.alloc (.cells #[.slice (some ⟨g, 0, none⟩) x cap, .slice (some ⟨B, 0, none⟩) k 2, .slice (some ⟨b2, o2, none⟩) m c2] 22)) w') := fun V hV => by
            have hrl := HXY.out.2.2.2.2
            have := concat3 V g B b2 o2 x k m n cap 2 c2 (row.take x) (cells2 (s1.sf, s1.sb, s1.sx) r k) (tailR ins row x k) (by have h := (HCE.out.below HBB.out).part 0 x (by omega); rw [Nat.zero_mul, Nat.zero_add, List.drop_zero] at h; exact h.below hV) (HCB.out.below hV) (HT2.out.below hV) (by rw [List.length_take]; omega) (by unfold cells2; rw [List.length_take]; have := HKR.out.2; simp; omega) hm.symm (by have := HTL.out; rw [hm]; unfold tailR; split <;> (rw [List.length_drop]; omega)) (by rw [hm]; unfold tailR; split <;> (rw [List.length_drop]; omega)) (by omega)
            unfold rowY
            rw [hrl]
            exact this
          have HMM : Hid (m = (tailR ins row x k).length) := hm
          have hx1 : (x : Int) ≤ (cap : Int) := by omega
          have hx2 : (x : Int) ≤ (n : Int) := by omega
          clear hm
          go_upto_region 13 with fail
          go_cut [9] from 10 to 190 (fun c wx => ∃ b o c', c = .slice (some ⟨b, o, none⟩) n c' ∧ CellsAt wx b o (rowY ins (s1.sf, s1.sb, s1.sx) row x k r) ∧ Below Y.heap.size Y wx)
          case first =>
            have b0 : Below Y.heap.size Y Y.drew := (Below.refl _ _).drew
            have SX : Hid (∀ V, Below Y.heap.size Y V → V.cell? ⟨p, 3, none⟩ = some (.int .i64 (x : Int)) ∧ V.cell? ⟨p, 0, none⟩ = some (.int .i64 (n : Int))) := fun V hV => by
              obtain ⟨-, c3, c0, -⟩ := SK.out V (HBB.out.trans (hV.mono HBB.out.size))
              exact ⟨c3, c0⟩
            have q2 := b0.alloc b0.size (.cells #[.slice (some ⟨g, 0, none⟩) x cap, .slice (some ⟨B, 0, none⟩) k 2, .slice (some ⟨b2, o2, none⟩) m c2] 22)
            have HC1 := HCN.out _ b0
            clear HCN
            go_region_held3 (fun w' => w'.cell? ⟨p, 3, none⟩ = some (.int .i64 (x : Int)) ∧ w'.cell? ⟨p, 0, none⟩ = some (.int .i64 (n : Int)))
              (first | exact SX.out _ q3 | exact SX.out _ q2 | exact SX.out _ b0)
              (first
                | (go_at_call 97; refine HC1.mono ?_; rintro e V2 ⟨zb, zo, zc, rfl, hzc, hZ, b3⟩; have q3 : Below Y.heap.size Y V2 := q2.trans (b3.mono q2.size); have HFI : Hid _ := And.intro hZ q3; have hzI : (n : Int) ≤ (zc : Int) := (by omega)))
            all_goals go_wp2_with fail
            all_goals go_meet
            all_goals exact ⟨_, _, _, rfl, HFI.out⟩
          case rest =>
            obtain ⟨b3, o3, c3', rfl, hC3, hB3⟩ := hcut
            have HB3 : Hid (Below X.heap.size X wc) := HBB.out.trans (hB3.mono HBB.out.size)
            have HML : Hid ((rowY ins (s1.sf, s1.sb, s1.sx) row x k r).length = n) := by
              have h := rowY_len ins (s1.sf, s1.sb, s1.sx) row x k r (by have := HKR.out.2; have := HKP.out; omega) (by rw [HXY.out.2.2.2.2]; exact hxk)
              unfold Hid
              rw [h]
              exact HXY.out.2.2.2.2
            rename_i hKK
            exact hKK _ _ (dprint_end (HZ.out.step HB3.out) HPT HMT hm0 hm1 HK HKR HKP hn1 hn2 HXY hyl hxk (HOP.out.next HB3.out) HIN rfl HML hC3 (by rw [Hid, HPR.out, HFS.out, if_neg (by simp)]) _ _ _ _ _ _ _ _ _ _ _ _ _ _ _ _ _ _ _ _ _ _ _ _ _ _ _ _ _ _ _ _ _ _ _ _ _ _ _ _ _ _ _ _ _ _ _ _ _ _ _ _ _ _ _ _ _ _ _ _ _ _ _ _ _ _ _ _ _ _ _ _ _ _ _ _ _ _ _ _ _ _ _ _ _ _ _ _ _ _ _ _ _ _ _ _ _ _ _ _ _ _ _ _ _ _ _ _ _ _ _ _ _ _ _ _ _ _ _ _ _ _ _ _ _ _ _ _ _ _ _ _ _ _ _ _ _ _ _ _ _ _ _ _ _ _ _ _ _ _ _ _ _ _ _ _ _ _ _ _ _ _ _ _ _ _ _ _ _ _ _ _ _ _ _ _ _ _ _ _ _ _ _ _ _ _ _)
end Put
end Go.Proofs.YtnkeahfcpbepjaaGreatDoor

/- The reference's desk: Print. (Written by gen_printdesk.py.) -/
namespace Go.Proofs.YtnkeahfcpbepjaaGreatDoor
open Go.ChangeShapes Go.WideShapes Go.ChangeAt Go.RowKit
namespace Put
open Grd (C SliceAt CellsAt gridErr z0 nilV flat rowsL RowB RowsAt mendL)
open Txt (wd)
set_option maxHeartbeats 40000000 in
set_option maxRecDepth 100000 in
theorem dprint_go {n hh : Nat} {s : Scr} {rows : List (List C)} (hP : PI n hh s rows) (hm0 : 0 ≤ s.modes) (hm1 : s.modes ≤ 63) (N p : Nat) (r : Int) (W : World) (hD : DkAt W N p s rows) (hk0 : wd r ≠ 0) (hkw : ¬ s.w < wd r) :
    Calls Tryz.prog 104 #[.pointer (some ⟨p, 0, none⟩), .int .i32 r] W fun e W' => e = .returned (.tuple #[]) ∧ Dsk W W' N p (prnP n s rows r).1 (prnP n s rows r).2 := by
  have hPT := hP.turn r
  have HFD : Hid (∀ X, DkAt X N p { s with x := 0 } rows → Calls Tryz.prog 102 #[.pointer (some ⟨p, 0, none⟩)] X fun e W' => e = .returned (.tuple #[]) ∧ DkAt W' N p (fedP n s rows).1 (fedP n s rows).2 ∧ Bel N X W') := fun X h => dfed_any hP X N p h
  have HTN : Hid (turnP n s rows r = if brkB s (wd r) = true then fedP n s rows else (s, rows)) := rfl
  have hfx := fedP_x n s rows
  have hfw := hP.fed.w
  have hsw := hP.w
  have hx0 := hP.x0
  have hx1 := hP.x1
  have hn1 := hP.n1
  have hn2 := hP.n2
  have hkr := Txt.wd_range r
  have HFT : Hid (fitsB (fedP n s rows).1 (wd r) = true) := by unfold Hid fitsB; rw [decide_eq_true_eq, hfx, hfw]; omega
  have hbt := has_bits s.modes hm0 hm1
  have HPR : Hid (prnP n s rows r = if fitsB (turnP n s rows r).1 (wd r) = false then turnP n s rows r
    else ({ advS (turnP n s rows r).1 (wd r) with last := r }, (roomP (turnP n s rows r).1 (turnP n s rows r).2 r).set (turnP n s rows r).1.y.toNat (putRune ((turnP n s rows r).1.sf, (turnP n s rows r).1.sb, (turnP n s rows r).1.sx) ((roomP (turnP n s rows r).1 (turnP n s rows r).2 r).getD (turnP n s rows r).1.y.toNat []) (turnP n s rows r).1.x.toNat r))) := by
    unfold Hid prnP
    rw [if_neg (by omega)]
  have hmt : (turnP n s rows r).1.modes = s.modes := (turn_held n s rows r).2.2.2.2.2.2.2.1
  obtain ⟨q, hq⟩ : ∃ q, q = prnP n s rows r := ⟨_, rfl⟩
  rw [← hq] at HPR ⊢
  clear hq
  generalize turnP n s rows r = t at *
  generalize fedP n s rows = fd at *
  obtain ⟨k, hk⟩ : ∃ k : Nat, wd r = (k : Int) := ⟨(wd r).toNat, by omega⟩
  have HW := Grd.widthOf_to r W (k : Int) hk
  have HK : Hid (wd r = (k : Int)) := hk
  have hwx : IntKind.i64.wrap (s.x + (k : Int)) = s.x + (k : Int) := wrap_id _ (by omega) (by omega)
  rw [hk] at hk0 hkw hkr HTN HFT HPR
  have HD : Hid (Dsk W W N p s rows) := ⟨hD, Bel.refl _ _⟩
  have q0 : ((k : Int) == 0) = false := by rw [beq_eq_false_iff_ne]; exact hk0
  have hfit : fitsB s (k : Int) = decide (s.x + (k : Int) ≤ s.w) := by unfold fitsB; rw [decide_eq_decide]; omega
  have HPT : Hid (PI n hh t.1 t.2) := hPT
  have HMT : Hid (t.1.modes = s.modes) := hmt
  have HBT : Hid _ := hbt
  have HKR : Hid (0 ≤ (k : Int) ∧ (k : Int) ≤ 2) := hkr
  clear hD hk hfx hfw hsw hmt hbt hPT hk0 hkr
  go_enter Tryz.func104, Tryz.ntmps104
  go_wp2_with fail
  refine HW.mono ?_
  rintro e X ⟨rfl, b1⟩
  have HX : Hid (Dsk W X N p s rows) := HD.out.step b1
  obtain ⟨c0, -, c3, -⟩ := HX.out.1.words
  clear b1 HD HW
  go_upto_region 2 with fail
  go_cut [5] from 10 to 190 (fun c wx => c = .bool (fitsB s (k : Int)) ∧ Dsk W wx N p s rows)
  case first =>
    go_region
    go_wp2_with fail
    go_meet
    exact ⟨by rw [hfit], HX.out.drew⟩
  case rest =>
    obtain ⟨rfl, hY⟩ := hcut
    have HY : Hid (Dsk W wc N p s rows) := hY
    clear c0 c3 HX hY hfit hwx hkw
    go_upto_region 3 with fail
    go_cut [5, 55] from 10 to 190 (fun c0 c wx => c0 = .bool (fitsB s (k : Int)) ∧ c = .bool (brkB s (k : Int)) ∧ Dsk W wx N p s rows)
    case first =>
      obtain ⟨-, -, -, -, c5, -, -, c11, -⟩ := HY.out.1.words
      cases hl : s.late with
      | true =>
        have HB : Hid (brkB s (k : Int) = true) := by unfold Hid brkB; rw [hl]; rfl
        rw [hl] at c5
        go_wp2_with fail
        go_meet
        exact ⟨rfl, by rw [HB.out], HY.out⟩
      | false =>
        rw [hl] at c5
        cases hf : fitsB s (k : Int) with
        | true =>
          have HB : Hid (brkB s (k : Int) = false) := by unfold Hid brkB; rw [hl, hf]; cases hasB s.modes 4 <;> rfl
          go_wp2_with fail
          go_meet
          exact ⟨by rw [hf], by rw [HB.out], HY.out⟩
        | false =>
          have hb4 := HBT.out.2.2
          cases hq : (bits .and .i64 s.modes 4 == 0) with
          | true =>
            have HB : Hid (brkB s (k : Int) = false) := by unfold Hid brkB; rw [hl, hf, hb4, hq]; rfl
            clear hb4
            go_wp2_with fail
            go_meet
            exact ⟨by rw [hf], by rw [HB.out, bne, hq]; rfl, HY.out⟩
          | false =>
            have HB : Hid (brkB s (k : Int) = true) := by unfold Hid brkB; rw [hl, hf, hb4, hq]; rfl
            clear hb4
            go_wp2_with fail
            go_meet
            exact ⟨by rw [hf], by rw [HB.out, bne, hq]; rfl, HY.out⟩
    case rest =>
      obtain ⟨rfl, rfl, hY⟩ := hcut
      replace HY : Hid (Dsk W wc N p s rows) := hY
      clear hY
      go_upto_if 55 with fail
      go_cut [5] from 10 to 190 (fun c wx => c = .bool (fitsB t.1 (k : Int)) ∧ Dsk W wx N p t.1 t.2)
      case first =>
        cases hb : brkB s (k : Int) with
        | true =>
          have HT : Hid (t = fd) := by unfold Hid; rw [HTN.out, hb, if_pos rfl]
          obtain ⟨-, -, c3, -, -, -, -, -, -, f⟩ := HY.out.1.words
          have f3 := f 3
          have HD3 : Hid (DkAt (wc.setCell ⟨p, 3, none⟩ (.int .i64 0)) N p { s with x := 0 } rows) := HY.out.1.set 3 _ (fun _ _ _ _ => rfl) rfl rfl
          have HB3 : Hid (Bel N W (wc.setCell ⟨p, 3, none⟩ (.int .i64 0))) := HY.out.2.setCell HY.out.1.lo _
          have HFE := HFD.out _ HD3.out
          clear f HFD
          go_wp2_with fail
          refine HFE.mono ?_
          rintro e V ⟨rfl, h1, h2⟩
          have HE : Hid (Dsk W V N p fd.1 fd.2) := ⟨h1, HB3.out.trans h2⟩
          clear h1 h2 HFE c3 f3 HD3 HB3
          go_wp2_with fail
          go_meet
          rw [HT.out]
          exact ⟨by rw [HFT.out], HE.out⟩
        | false =>
          have HT : Hid (t = (s, rows)) := by unfold Hid; rw [HTN.out, hb, if_neg (by simp)]
          go_wp2_with fail
          go_meet
          rw [HT.out]
          exact ⟨rfl, HY.out⟩
      case rest =>
        obtain ⟨rfl, hY⟩ := hcut
        have HZ : Hid (Dsk W wc N p t.1 t.2) := hY
        clear hY HFD HTN HFT HY
        obtain ⟨s1, rows1⟩ := t
        dsimp only at HZ HPT HMT ⊢
        clear HBT
        have h0 : (k : Int) ≠ 0 := by simpa using q0
        have HKP : Hid (0 < k) := by unfold Hid; omega
        apply_assumption
        exact (dprint_mid HZ.out HPT HMT hm0 hm1 HK HKR HKP hn1 hn2 HMT.out HPR _ _ _ _ _ _ _ _ _ _ _ _ _ _ _ _ _ _ _ _ _ _ _ _ _ _ _ _ _ _ _ _ _ _ _ _ _ _ _ _ _ _ _ _ _ _ _ _ _ _ _ _ _ _ _ _ _ _ _ _ _ _ _ _ _ _ _ _ _ _ _ _ _ _ _ _ _ _ _ _ _ _ _ _ _ _ _ _ _ _ _ _ _ _ _ _ _ _ _ _ _ _ _ _ _ _ _ _ _ _ _ _ _ _ _ _ _ _ _ _ _ _ _ _ _ _ _ _ _ _ _ _ _ _ _ _ _ _ _ _ _ _ _ _ _ _ _ _ _ _ _ _ _ _ _ _ _ _ _ _ _ _ _ _ _ _ _ _ _ _ _ _ _ _ _ _ _ _ _ _ _ _ _ _ _ _ _)
theorem dprint_any {n hh : Nat} {s : Scr} {rows : List (List C)} (hJ : PJ n hh s rows) (N p : Nat) (r : Int) (W : World) (hD : DkAt W N p s rows) :
    Calls Tryz.prog 104 #[.pointer (some ⟨p, 0, none⟩), .int .i32 r] W fun e W' => e = .returned (.tuple #[]) ∧ Dsk W W' N p (prnP n s rows r).1 (prnP n s rows r).2 := by
  by_cases hsk : wd r = 0 ∨ s.w < wd r
  · have e : prnP n s rows r = (s, rows) := by unfold prnP; rw [if_pos hsk]
    rw [e]
    exact dprint_skip N p s rows r W hD hsk
  · have hm := hJ.r.modes
    exact dprint_go hJ.pi hm.1 hm.2 N p r W hD (fun e => hsk (.inl e)) (fun e => hsk (.inr e))
end Put
end Go.Proofs.YtnkeahfcpbepjaaGreatDoor
