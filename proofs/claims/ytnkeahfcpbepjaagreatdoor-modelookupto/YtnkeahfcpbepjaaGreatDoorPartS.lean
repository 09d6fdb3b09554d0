/- sheet.open, of a screen whose rows that are gone, and whose cells, lie where they may stay. -/
import Derived.Test.YtnkeahfcpbepjaaGreatDoorPartH
import Derived.Test.YtnkeahfcpbepjaaGreatDoorPartR
import Derived.Test.YtnkeahfcpbepjaaGreatDoorPartI
import Derived.Test.YtnkeahfcpbepjaaGreatDoorPartO
import Derived.Deep.RegionHeld3
import Derived.BigRegion
import Derived.Test.YtnkeahfcpbepjaaGreatDoorPartE
import Derived.Test.YtnkeahfcpbepjaaGreatDoorPartK
import Derived.Test.YtnkeahfcpbepjaaGreatDoorPartP
namespace Go.Proofs.YtnkeahfcpbepjaaGreatDoor
open Go.ChangeShapes Go.WideShapes Go.ChangeAt Go.RowKit
namespace Put
open Grd (C SliceAt CellsAt gridErr z0 nilV flat rowsL)
section
attribute [local go_sem ↓] load_scr build_scr
attribute [local go_sem] isScrV isSliceV sheetOf_scr
set_option maxHeartbeats 4000000 in
theorem open_own (M n hh : Nat) (s : Scr) (cv tv gv : Value) (gvs : List Value) (w0 w : World) (hM : M ≤ w0.heap.size) (hSt : ∀ b o m c, cv = .slice (some ⟨b, o, none⟩) m c → Still w0 M b) (hG : GoneV w0 0 gv s.gone.length gvs) (hGI : RowsIn w0 M gvs s.gone) (hSl : ∀ v, v ∈ gvs → IsSl v) (hV : ScrV w0 s cv tv gv) (hb0 : Below w0.heap.size w0 w) (hF : Fits s) (hw : s.w = n) (hh' : s.h = hh) (hz : gridErr n hh s.cs = 0) :
    Calls Tryz.prog 73 #[.agg (scrA s cv tv gv)] w fun e W' => ∃ p, e = .returned (.pointer (some ⟨p, 0, none⟩)) ∧ ShAt 64 W' M w.heap.size p s (rowsL n s.cs hh) ∧ Below w.heap.size w W' := by
  have hzz := (Grd.gridErr_zero n hh s.cs).1 hz
  obtain ⟨hsz, hL, -⟩ := hzz
  have hsz' : 1 ≤ (n : Int) ∧ (n : Int) ≤ 120 ∧ 1 ≤ (hh : Int) ∧ (hh : Int) ≤ 60 := by simpa [Grd.isSize] using hsz
  obtain ⟨w1, w2, w3, w4⟩ := hsz'
  have hne : s.cs ≠ [] := by
    intro e
    rw [e] at hL
    have : 1 ≤ n * hh := Nat.mul_pos (by omega) (by omega)
    simp at hL
    omega
  rcases hV.c with ⟨he, -⟩ | ⟨-, b, o, cap, rfl, hc1, hc2, hC⟩
  · exact absurd he hne
  have HST : Hid (Still w0 M b) := hSt b o _ cap rfl
  have HGI : Hid (RowsIn w0 M gvs s.gone) := hGI
  have HGV : Hid (GoneV w0 0 gv s.gone.length gvs) := hG
  have HSL : Hid (∀ v, v ∈ gvs → IsSl v) := hSl
  have HMM : Hid (M ≤ w0.heap.size) := hM
  clear hSt hG hGI hSl hM
  have HL : Hid (s.cs.length = n * hh) := hL
  rw [hL] at hc1 hV ⊢
  have HC : Hid (CellsAt w0 b o s.cs) := hC
  have HB00 : Hid (Below w0.heap.size w0 w) := hb0
  have HW : Hid (s.w = n ∧ s.h = hh) := ⟨hw, hh'⟩
  clear hL hC hz hsz hne hw hh'
  have x0 := heap_alloc_new w (.cells (scrA s (.slice (some ⟨b, o, none⟩) (n * hh) cap) tv gv) 32)
  have kb : Below w.heap.size w (w.alloc (.cells (scrA s (.slice (some ⟨b, o, none⟩) (n * hh) cap) tv gv) 32)) := (Below.refl _ _).alloc (Nat.le_refl _) _
  have HX0 : Hid _ := x0
  have HB0 : Hid _ := kb
  have HV : Hid (ScrV w0 s _ tv gv) := hV
  have HF : Hid (Fits s) := hF
  clear x0 kb hV hF hb0
  have hl0 : w.heap.size < (w.alloc (.cells (scrA s (.slice (some ⟨b, o, none⟩) (n * hh) cap) tv gv) 32)).heap.size := by simp
  go_enter Tryz.func73, Tryz.ntmps73
  go_upto_region 1 with fail
  generalize w.alloc (.cells (scrA s (.slice (some ⟨b, o, none⟩) (n * hh) cap) tv gv) 32) = W1 at *
  go_cut [3] from 3 to 14 (fun c wx => ∃ p rv, c = .pointer (some ⟨p, 0, none⟩) ∧ w.heap.size ≤ p ∧ wx.heap[p]? = some (.cells (shA s (.slice (some ⟨b, o, none⟩) (n * hh) cap) tv gv rv) 64 (0, 0)) ∧ wx.ownsRow w.heap.size 22 1 rv hh ((List.range hh).map (rowV b o n)) ∧ Below W1.heap.size W1 wx)
  case first =>
    have hn1 : 1 ≤ n := by omega
    have SK : Hid (∀ w', Below W1.heap.size W1 w' → Below W1.heap.size W1 w' ∧ ScrPtr w' (.pointer (some ⟨w.heap.size, 0, none⟩)) ∧ blkAt w' (.pointer (some ⟨w.heap.size, 0, none⟩)) = scrA s (.slice (some ⟨b, o, none⟩) (n * hh) cap) tv gv ∧ w'.cell? ⟨w.heap.size, 0, none⟩ = some (.int .i64 (n : Int)) ∧ w'.cell? ⟨w.heap.size, 2, none⟩ = some (.slice (some ⟨b, o, none⟩) (n * hh) cap)) := fun w' hb => by
      have hx := Grd.carry HX0.out hb
      have q := scr_cells hx
      rw [HW.out.1] at q
      exact ⟨hb, (scrPtr_of hx).1, (scrPtr_of hx).2, q.1.1, q.1.2.2.1⟩
    have b0 : Below W1.heap.size W1 W1.drew := (Below.refl _ _).drew
    have HC1 : Hid (n * hh ≤ cap) := hc1
    have hh1 : 0 < hh := by omega
    clear hc1
    go_region_held3 (fun w' => Below W1.heap.size W1 w' ∧ ScrPtr w' (.pointer (some ⟨w.heap.size, 0, none⟩)) ∧ blkAt w' (.pointer (some ⟨w.heap.size, 0, none⟩)) = scrA s (.slice (some ⟨b, o, none⟩) (n * hh) cap) tv gv ∧ w'.cell? ⟨w.heap.size, 0, none⟩ = some (.int .i64 (n : Int)) ∧ w'.cell? ⟨w.heap.size, 2, none⟩ = some (.slice (some ⟨b, o, none⟩) (n * hh) cap))
      (first | exact SK.out _ (c2.alloc c2.size _) | exact SK.out _ c2 | exact SK.out _ c1 | exact SK.out _ b0)
      (first | (go_at_call 130; refine (chunk_at _ _ _ n hn1 _).mono ?_; rintro e V1 ⟨Bs, Bn, rfl, l1, l2, q1, q2, b1⟩; have c1 := b0.trans (b1.mono b0.size); clear b1) | (go_at_call 129; refine (collect_any Bs Bn b o n hh cap hn1 (by omega) (by omega) HC1.out _ l1 l2 q1 q2).mono ?_; rintro e V2 ⟨v, rfl, ho, b2⟩; have c2 := c1.trans (b2.mono c1.size); have HO : Hid (V2.ownsRow V1.heap.size 22 1 v hh ((List.range hh).map (rowV b o n))) := ho; obtain ⟨g, cp, rfl⟩ := own_shape ho hh1; clear b2 ho q1 q2))
    go_wp2_with fail
    go_meet
    exact ⟨V2.heap.size, _, rfl, Nat.le_trans (Nat.le_of_lt hl0) c2.size, heap_alloc_new _ _, Grd.ownsRow_mono (World.ownsRow.alloc HO.out _) (by have := c1.size; omega), c2.alloc c2.size _⟩
  case rest =>
    obtain ⟨p, rv, rfl, hp, hblk, hown, hb⟩ := hcut
    have hne : w.heap.size ≠ p := by
      intro e
      rw [← e, Grd.carry HX0.out hb] at hblk
      injection hblk with hblk
      injection hblk with _ hblk _
      exact absurd hblk (by decide)
    have HX1 : Hid _ := Grd.carry HX0.out hb
    have HP1 : Hid _ := hblk
    have HO1 : Hid _ := hown
    have HB1 : Hid (Below w.heap.size w wc) := HB0.out.trans (hb.mono HB0.out.size)
    clear hblk hown hb
    obtain ⟨-, ⟨-, c12, -⟩, -⟩ := scr_cells HX1.out
    go_wp2_with fail
    refine (cloneBools_any tv s.tabs wc (BoolsV.next HV.out.t (HB00.out.trans (HB1.out.mono HB00.out.size))) HF.out.bl).mono ?_
    rintro e W2 ⟨tv', rfl, ho2, b2⟩
    obtain ⟨ta, tc, rfl⟩ := own_slice ho2
    have hp2 := Grd.carry HP1.out b2
    have f12 := (sh_cells hp2).2.2 12
    have c12' := (sh_cells hp2).2.1.2.1
    clear c12
    have HP2 : Hid _ := store_at (i := 12) (v := .slice ta s.tabs.length tc) hp2 rfl
    have HX2 : Hid _ := (store_off (i := 12) (v := .slice ta s.tabs.length tc) hne).trans (Grd.carry HX1.out b2)
    have HT2 : Hid _ := own_off (i := 12) (v := .slice ta s.tabs.length tc) ho2 hp2 (by decide)
    have HO2 : Hid _ := own_off (i := 12) (v := .slice ta s.tabs.length tc) (own_next HO1.out b2) hp2 (by decide)
    have HB2 : Hid (Below w.heap.size w (W2.setCell ⟨p, 12, none⟩ (.slice ta s.tabs.length tc))) := (HB1.out.trans (b2.mono HB1.out.size)).setCell hp _
    have c20 := (scr_cells (Grd.carry HX1.out b2)).2.1.2.2.2.2.2.2.2.2.2.1
    clear ho2 b2 hp2
    go_wp2_with fail
    refine (Txt.clone_any s.title _ (by have := HF.out.tl; omega)).mono ?_
    rintro e W4 ⟨rfl, b4⟩
    have hp4 := Grd.carry HP2.out b4
    have f20 := (sh_cells hp4).2.2 20
    have c20' := (sh_cells hp4).2.1.2.2.2.2.2.2.2.2.2.1
    have HP4 : Hid _ := store_at (i := 20) (v := .string s.title) hp4 rfl
    have HX4 : Hid _ := (store_off (i := 20) (v := .string s.title) hne).trans (Grd.carry HX2.out b4)
    have HT4 : Hid _ := own_off (i := 20) (v := .string s.title) (own_next HT2.out b4) hp4 (by decide)
    have HO4 : Hid _ := own_off (i := 20) (v := .string s.title) (own_next HO2.out b4) hp4 (by decide)
    have HB4 : Hid (Below w.heap.size w (W4.setCell ⟨p, 20, none⟩ (.string s.title))) := (HB2.out.trans (b4.mono HB2.out.size)).setCell hp _
    have c21 := (scr_cells (Grd.carry HX2.out b4)).2.1.2.2.2.2.2.2.2.2.2.2
    clear b4 hp4 c20 c12' f12
    go_wp2_with fail
    refine (cloneVals _ _ gvs _ (GoneV.next HGV.out (HB00.out.trans (HB4.out.mono HB00.out.size))) HSL.out (by have := HF.out.gl; omega)).mono ?_
    rintro e W6 ⟨ga, gc, rfl, ho6, b6⟩
    have hp6 := Grd.carry HP4.out b6
    have f21 := (sh_cells hp6).2.2 21
    have c21' := (sh_cells hp6).2.1.2.2.2.2.2.2.2.2.2.2.1
    have HP6 : Hid _ := store_at (i := 21) (v := .slice ga s.gone.length gc) hp6 rfl
    have HT6 : Hid _ := own_off (i := 21) (v := .slice ga s.gone.length gc) (own_next HT4.out b6) hp6 (by decide)
    have HO6 : Hid _ := own_off (i := 21) (v := .slice ga s.gone.length gc) (own_next HO4.out b6) hp6 (by decide)
    have HG6 : Hid _ := own_off (i := 21) (v := .slice ga s.gone.length gc) ho6 hp6 (by decide)
    have HB6 : Hid (Below w.heap.size w (W6.setCell ⟨p, 21, none⟩ (.slice ga s.gone.length gc))) := (HB4.out.trans (b6.mono HB4.out.size)).setCell hp _
    clear ho6 b6 hp6 c21 c20' f20
    go_wp2_with fail
    go_ret
    have hk : Kept M w0 (W6.setCell ⟨p, 21, none⟩ (.slice ga s.gone.length gc)) := fun k hk _ => (HB00.out.trans (HB6.out.mono HB00.out.size)).block k hk
    refine ⟨p, rfl, ⟨_, _, _, _, gvs, (List.range hh).map (rowV b o n), HP6.out, hp, Nat.le_trans HMM.out HB00.out.size, ⟨_, _, _, rfl⟩, Grd.ownsRow_mono HT6.out HB1.out.size, Grd.ownsRow_mono HG6.out HB4.out.size, RowsIn.keep HGI.out hk, ?_, ?_, ?_⟩, HB6.out⟩
    · rw [Grd.rowsL_len]
      exact HO6.out
    · refine ⟨by rw [Grd.rowsL_len]; simp, fun i hi => ?_⟩
      rw [Grd.rowsL_len] at hi
      have e1 : ((List.range hh).map (rowV b o n)).getD i nilV = rowV b o n i := by simp [List.getD, hi]
      have e2 : (rowsL n s.cs hh).getD i [] = Grd.rowAt n s.cs i := by simp [rowsL, List.getD, hi]
      have hle : i * n + n ≤ n * hh := by
        have : (i + 1) * n ≤ hh * n := Nat.mul_le_mul_right n hi
        rw [Nat.mul_comm n hh]
        rw [Nat.add_mul] at this
        omega
      have hlen : (Grd.rowAt n s.cs i).length = n := by
        unfold Grd.rowAt
        rw [List.length_take, List.length_drop, HL.out]
        omega
      have hC2 := HC.out.part (i * n) n (by rw [HL.out]; exact hle)
      have hr : RowIn w0 M (rowV b o n i) (Grd.rowAt n s.cs i) := .inr ⟨by intro e; rw [e] at hlen; simp at hlen; omega, b, _, n, by unfold rowV; rw [hlen], by omega, by omega, hC2, HST.out⟩
      rw [e1, e2]
      exact hr.keep hk
    · intro k h1 h2
      obtain ⟨-, A, f, hA⟩ := owns_block HO4.out k h1
      obtain ⟨hB, -⟩ := owns_block HG6.out k h2
      have := heap_lt hA
      omega
end
end Put
end Go.Proofs.YtnkeahfcpbepjaaGreatDoor

/- sheet.Become: a sheet takes another screen in its place. -/
namespace Go.Proofs.YtnkeahfcpbepjaaGreatDoor
open Go.ChangeShapes Go.WideShapes Go.ChangeAt Go.RowKit
namespace Put
open Grd (C SliceAt CellsAt gridErr z0 nilV flat rowsL)
theorem sh_one (s : Scr) (a1 a2 a3 a4 : Option Addr) (n1 n2 n3 n4 c1 c2 c3 c4 : Nat) : (shA s (.slice a1 n1 c1) (.slice a2 n2 c2) (.slice a3 n3 c3) (.slice a4 n4 c4)).all (·.oneCell') = true := by simp [shA, Value.oneCell']
/-- A sheet, copied into another one's block. -/
theorem ShA.move {t : TypeId} (ht : IsSheet t) {W W' : World} {M N N0 q p : Nat} {s : Scr} {rows : List (List C)} {cv tv gv rv : Value} {gvs vs : List Value} {A : Array Value} {f : Nat × Nat} (h : ShA t W M N q s rows cv tv gv rv gvs vs) (hold : W.heap[p]? = some (.cells A t f)) (hN : N0 ≤ N) (hM : M ≤ N0) (hlo : N0 ≤ p)
    (hp : W'.heap[p]? = some (.cells (shA s cv tv gv rv) t (0, 0))) (ho : ∀ k, k ≠ p → W'.heap[k]? = W.heap[k]?) : ShA t W' M N0 p s rows cv tv gv rv gvs vs := by
  have hne : ∀ {e : TypeId} {v : Value} {n : Nat} {xs : List Value}, t ≠ e → W.ownsRow N e 1 v n xs → ∀ g, v.ownBlock = some g → W'.heap[g]? = W.heap[g]? := fun hte hw g hg => by
    obtain ⟨-, B, f', hB⟩ := owns_block hw g hg
    refine ho g fun e => ?_
    subst e
    rw [hold] at hB
    injection hB with hB
    injection hB with _ hB _
    exact hte hB
  have hk : Kept M W W' := fun k hk hS => by
    refine ho k fun e => ?_
    subst e
    rcases hS with hS | ⟨B, f', hS⟩
    · omega
    · rw [hold] at hS
      injection hS with hS
      injection hS with _ hS _
      exact ht.2.2 hS
  exact ⟨hp, hlo, hM, h.cvs, Grd.ownsRow_mono (owns_kept h.tabs (hne ht.1 h.tabs)) hN, Grd.ownsRow_mono (owns_kept h.gone (hne ht.2.1 h.gone)) hN, h.gin.keep hk, Grd.ownsRow_mono (owns_kept h.rws (hne ht.2.1 h.rws)) hN, h.rin.keep hk, h.two⟩
set_option maxHeartbeats 4000000 in
set_option maxRecDepth 100000 in
theorem become_any (M N p n hh : Nat) (s fr : Scr) (rows : List (List C)) (cv tv gv : Value) (gvs : List Value) (W : World) (hS : ShAt 64 W M N p s rows) (hN : N ≤ W.heap.size) (hSt : ∀ b o m c, cv = .slice (some ⟨b, o, none⟩) m c → Still W M b) (hG : GoneV W 0 gv fr.gone.length gvs) (hGI : RowsIn W M gvs fr.gone) (hV : ScrV W fr cv tv gv) (hF : Fits fr) (hw : fr.w = n) (hh' : fr.h = hh) (hz : gridErr n hh fr.cs = 0) :
    Calls Tryz.prog 72 #[.pointer (some ⟨p, 0, none⟩), .agg (scrA fr cv tv gv)] W fun e W' => e = .returned (.tuple #[]) ∧ ShAt 64 W' M N p fr (rowsL n fr.cs hh) ∧ Below N W W' := by
  obtain ⟨ov, otv, ogv, orv, ogvs, ovs, hA⟩ := hS
  have kb : Below W.heap.size W (W.alloc (.cells (scrA fr cv tv gv) 32)) := (Below.refl _ _).alloc (Nat.le_refl _) _
  have x0 := heap_alloc_new W (.cells (scrA fr cv tv gv) 32)
  have hMW : M ≤ W.heap.size := Nat.le_trans hA.ml hN
  have HOP := open_own M n hh fr cv tv gv gvs W _ hMW hSt hG hGI hGI.sls hV kb hF hw hh' hz
  have HA : Hid (ShA 64 W M N p s rows ov otv ogv orv ogvs ovs) := hA
  have HX0 : Hid _ := x0
  have HKB : Hid _ := kb
  clear x0 kb hA hSt hG hGI hV hF hw hh' hz
  go_enter Tryz.func72, Tryz.ntmps72
  go_upto_region 1 with fail
  generalize W.alloc (.cells (scrA fr cv tv gv) 32) = X at *
  go_wp2_with (refine wpList_load_row rfl 32 (.tmp 3) rfl W.heap.size rfl _ _ _ _ HX0.out Tryz.underlying32 rfl (by kernel_rfl) ?_)
  refine HOP.mono ?_
  rintro e V ⟨q, rfl, ⟨cv', tv', gv', rv', gvs', vs', hQ⟩, b1⟩
  obtain ⟨a1, n1, c1, rfl⟩ := hQ.cvs
  obtain ⟨a2, c2, rfl⟩ := own_slice hQ.tabs
  obtain ⟨a3, c3, rfl⟩ := own_slice hQ.gone
  obtain ⟨a4, c4, rfl⟩ := own_slice hQ.rws
  have hbV : Below W.heap.size W V := HKB.out.trans (b1.mono HKB.out.size)
  have hpV := Grd.carry HA.out.blk hbV
  have HPV : Hid (V.heap[p]? = _) := hpV
  have HQ : Hid _ := hQ
  have HQB : Hid (V.heap[q]? = _) := hQ.blk
  have HBV : Hid (Below W.heap.size W V) := hbV
  have HXS : Hid (W.heap.size ≤ X.heap.size) := HKB.out.size
  clear hQ b1 hbV hpV HOP HX0 HKB
  go_wp2_with (first
    | (refine wpList_load_row rfl 64 (.tmp 7) rfl q rfl _ _ _ _ HQB.out Tryz.underlying64 rfl (by kernel_rfl) ?_)
    | (refine wpList_store_row rfl 64 (.tmp 9) _ rfl p (shA fr (.slice a1 n1 c1) (.slice a2 fr.tabs.length c2) (.slice a3 fr.gone.length c3) (.slice a4 (rowsL n fr.cs hh).length c4)) rfl rfl _ _ HPV.out (by kernel_rfl) rfl (sh_one _ _ _ _ _ _ _ _ _ _ _ _ _) ?_))
  go_end0
  refine ⟨rfl, ⟨_, _, _, _, _, _, ShA.move sheet_is HQ.out HPV.out (Nat.le_trans hN HXS.out) HA.out.ml HA.out.lo (setRow_heap _ _ _ _ _ _ HPV.out) (fun k hk => setRow_other _ _ _ _ hk)⟩, below_setRow (HBV.out.mono hN) HA.out.lo _⟩
end Put
end Go.Proofs.YtnkeahfcpbepjaaGreatDoor

/- Rows that move, as values. -/
namespace Go.Proofs.YtnkeahfcpbepjaaGreatDoor
open Go.ChangeShapes Go.WideShapes Go.ChangeAt Go.RowKit
namespace Put
open Grd (C)
def iterN {α : Type} (f : α → α) : Nat → α → α
  | 0, x => x
  | k + 1, x => f (iterN f k x)
/-- Rows move up, once; what leaves at the top may be kept. -/
def rUp (n top bot : Nat) (keep : Bool) (x : Scr × List (List C)) : Scr × List (List C) := (if top = 0 ∧ keep = true then { x.1 with gone := keepG x.1.gone (x.2.getD 0 []) } else x.1, replR x.2 n x.1.sb top bot)
/-- Rows move down, once. -/
def rDn (n top bot : Nat) (x : Scr × List (List C)) : Scr × List (List C) := (x.1, replR x.2 n x.1.sb bot top)
/-- What stays while rows move. -/
structure Rolls (n bot hh : Nat) (bk : Int) (x : Scr × List (List C)) : Prop where
  w : x.1.w = n
  b : x.1.bot = bot
  k : x.1.sb = bk
  r : x.2.length = hh
  g : x.1.gone.length ≤ 50
theorem Rolls.up {n bot hh : Nat} {bk : Int} {x : Scr × List (List C)} (h : Rolls n bot hh bk x) (top : Nat) (keep : Bool) (ht : top < hh) (hb : bot < hh) : Rolls n bot hh bk (rUp n top bot keep x) := by
  have hr : (replR x.2 n x.1.sb top bot).length = hh := by rw [replR_len _ _ _ _ _ (by rw [h.r]; exact ht) (by rw [h.r]; exact hb), h.r]
  unfold rUp
  split
  · exact ⟨h.w, h.b, h.k, hr, keepG_len _ _ h.g⟩
  · exact ⟨h.w, h.b, h.k, hr, h.g⟩
theorem Rolls.dn {n bot hh : Nat} {bk : Int} {x : Scr × List (List C)} (h : Rolls n bot hh bk x) (top : Nat) (ht : top < hh) (hb : bot < hh) : Rolls n bot hh bk (rDn n top bot x) :=
  ⟨h.w, h.b, h.k, by show (replR x.2 n x.1.sb bot top).length = hh; rw [replR_len _ _ _ _ _ (by rw [h.r]; exact hb) (by rw [h.r]; exact ht), h.r], h.g⟩
end Put
end Go.Proofs.YtnkeahfcpbepjaaGreatDoor

/- Plain mathematics of rows that move. -/
namespace Go.Proofs.YtnkeahfcpbepjaaGreatDoor
namespace Put
open Grd (C)
theorem replR_up (rows : List (List C)) (n : Nat) (bk : Int) (top bot : Nat) (htb : top ≤ bot) (hb : bot < rows.length) (y : Nat) :
    (replR rows n bk top bot).getD y [] = if y < top then rows.getD y [] else if y < bot then rows.getD (y + 1) [] else if y = bot then List.replicate n (32, 0, bk, 0) else rows.getD y [] := by
  have hl : (rows.eraseIdx top).length = rows.length - 1 := List.length_eraseIdx_of_lt (by omega)
  unfold replR
  rw [getD_insert _ _ _ _ _ (by omega)]
  by_cases h1 : y < top
  · rw [if_pos h1, if_pos (by omega), getD_erase, if_pos h1]
  · rw [if_neg h1]
    by_cases h2 : y < bot
    · rw [if_pos h2, if_pos h2, getD_erase, if_neg h1]
    · rw [if_neg h2, if_neg h2]
      by_cases h3 : y = bot
      · rw [if_pos h3, if_pos h3]
      · rw [if_neg h3, if_neg h3, getD_erase, if_neg (by omega), show y - 1 + 1 = y by omega]
theorem replR_down (rows : List (List C)) (n : Nat) (bk : Int) (top bot : Nat) (htb : top ≤ bot) (hb : bot < rows.length) (y : Nat) :
    (replR rows n bk bot top).getD y [] = if y < top then rows.getD y [] else if y = top then List.replicate n (32, 0, bk, 0) else if y ≤ bot then rows.getD (y - 1) [] else rows.getD y [] := by
  have hl : (rows.eraseIdx bot).length = rows.length - 1 := List.length_eraseIdx_of_lt (by omega)
  unfold replR
  rw [getD_insert _ _ _ _ _ (by omega)]
  by_cases h1 : y < top
  · rw [if_pos h1, if_pos h1, getD_erase, if_pos (by omega)]
  · rw [if_neg h1, if_neg h1]
    by_cases h2 : y = top
    · rw [if_pos h2, if_pos h2]
    · rw [if_neg h2, if_neg h2, getD_erase]
      by_cases h3 : y ≤ bot
      · rw [if_pos h3, if_pos (by omega)]
      · rw [if_neg h3, if_neg (by omega), show y - 1 + 1 = y by omega]
theorem rUp_rows (n top bot : Nat) (keep : Bool) (x : Scr × List (List C)) : (rUp n top bot keep x).2 = replR x.2 n x.1.sb top bot := rfl
theorem rDn_rows (n top bot : Nat) (x : Scr × List (List C)) : (rDn n top bot x).2 = replR x.2 n x.1.sb bot top := rfl
theorem iterUp_len (n top bot : Nat) (keep : Bool) (htb : top ≤ bot) (x : Scr × List (List C)) (hb : bot < x.2.length) : ∀ k, (iterN (rUp n top bot keep) k x).2.length = x.2.length
  | 0 => rfl
  | k + 1 => by
    have ih := iterUp_len n top bot keep htb x hb k
    show (rUp n top bot keep (iterN (rUp n top bot keep) k x)).2.length = _
    rw [rUp_rows, replR_len _ _ _ _ _ (by omega) (by omega), ih]
theorem iterDn_len (n top bot : Nat) (htb : top ≤ bot) (x : Scr × List (List C)) (hb : bot < x.2.length) : ∀ k, (iterN (rDn n top bot) k x).2.length = x.2.length
  | 0 => rfl
  | k + 1 => by
    have ih := iterDn_len n top bot htb x hb k
    show (rDn n top bot (iterN (rDn n top bot) k x)).2.length = _
    rw [rDn_rows, replR_len _ _ _ _ _ (by omega) (by omega), ih]
/-- Rows outside those that scroll stay. -/
theorem iterUp_out (n top bot : Nat) (keep : Bool) (htb : top ≤ bot) (x : Scr × List (List C)) (hb : bot < x.2.length) (y : Nat) (hy : y < top ∨ bot < y) : ∀ k, (iterN (rUp n top bot keep) k x).2.getD y [] = x.2.getD y []
  | 0 => rfl
  | k + 1 => by
    have ih := iterUp_out n top bot keep htb x hb y hy k
    have hl := iterUp_len n top bot keep htb x hb k
    show (rUp n top bot keep (iterN (rUp n top bot keep) k x)).2.getD y [] = _
    rw [rUp_rows, replR_up _ _ _ _ _ htb (by omega), ih]
    by_cases h1 : y < top
    · rw [if_pos h1]
    · rw [if_neg h1, if_neg (by omega), if_neg (by omega)]
theorem iterDn_out (n top bot : Nat) (htb : top ≤ bot) (x : Scr × List (List C)) (hb : bot < x.2.length) (y : Nat) (hy : y < top ∨ bot < y) : ∀ k, (iterN (rDn n top bot) k x).2.getD y [] = x.2.getD y []
  | 0 => rfl
  | k + 1 => by
    have ih := iterDn_out n top bot htb x hb y hy k
    have hl := iterDn_len n top bot htb x hb k
    show (rDn n top bot (iterN (rDn n top bot) k x)).2.getD y [] = _
    rw [rDn_rows, replR_down _ _ _ _ _ htb (by omega), ih]
    by_cases h1 : y < top
    · rw [if_pos h1]
    · rw [if_neg h1, if_neg (by omega), if_neg (by omega)]
/-- What moved up k times. -/
theorem iterUp_in (n top bot : Nat) (keep : Bool) (htb : top ≤ bot) (x : Scr × List (List C)) (hb : bot < x.2.length) : ∀ k y, top ≤ y → y + k ≤ bot → (iterN (rUp n top bot keep) k x).2.getD y [] = x.2.getD (y + k) []
  | 0, y, _, _ => rfl
  | k + 1, y, h1, h2 => by
    have ih := iterUp_in n top bot keep htb x hb k (y + 1) (by omega) (by omega)
    have hl := iterUp_len n top bot keep htb x hb k
    show (rUp n top bot keep (iterN (rUp n top bot keep) k x)).2.getD y [] = _
    rw [rUp_rows, replR_up _ _ _ _ _ htb (by omega), if_neg (by omega), if_pos (by omega), ih]
    congr 1
    omega
/-- What moved down k times. -/
theorem iterDn_in (n top bot : Nat) (htb : top ≤ bot) (x : Scr × List (List C)) (hb : bot < x.2.length) : ∀ k y, top + k ≤ y → y ≤ bot → (iterN (rDn n top bot) k x).2.getD y [] = x.2.getD (y - k) []
  | 0, y, _, _ => rfl
  | k + 1, y, h1, h2 => by
    have ih := iterDn_in n top bot htb x hb k (y - 1) (by omega) (by omega)
    have hl := iterDn_len n top bot htb x hb k
    show (rDn n top bot (iterN (rDn n top bot) k x)).2.getD y [] = _
    rw [rDn_rows, replR_down _ _ _ _ _ htb (by omega), if_neg (by omega), if_neg (by omega), if_pos (by omega), ih]
    congr 1
    omega
/-- The last fifty. -/
def last50 (l : List (List C)) : List (List C) := l.drop (l.length - 50)
theorem last50_len (l : List (List C)) : (last50 l).length ≤ 50 := by
  unfold last50
  rw [List.length_drop]
  omega
theorem last50_short (l : List (List C)) (h : l.length ≤ 50) : last50 l = l := by
  unfold last50
  rw [show l.length - 50 = 0 by omega]
  rfl
theorem keepG_last (g : List (List C)) (row : List C) (h : g.length ≤ 50) : keepG g row = last50 (g ++ [row]) := by
  unfold keepG
  by_cases hl : g.length < 50
  · rw [if_pos hl, last50_short _ (by simp; omega)]
  · rw [if_neg hl]
    unfold last50
    rw [List.length_append, List.length_singleton, show g.length + 1 - 50 = 1 by omega, List.eraseIdx_zero, List.drop_one]
theorem last50_push (l : List (List C)) (row : List C) : last50 (last50 l ++ [row]) = last50 (l ++ [row]) := by
  by_cases h : l.length ≤ 50
  · rw [last50_short l h]
  · have e : (last50 l).length = 50 := by unfold last50; rw [List.length_drop]; omega
    have e1 : last50 (last50 l ++ [row]) = (last50 l ++ [row]).drop 1 := by
      show (last50 l ++ [row]).drop ((last50 l ++ [row]).length - 50) = _
      rw [List.length_append, List.length_singleton, e]
    rw [e1]
    unfold last50
    rw [List.drop_append_of_le_length (by rw [List.length_drop]; omega), List.drop_drop, List.length_append, List.length_singleton, List.drop_append_of_le_length (by omega)]
    congr 2
    omega
/-- What is gone behind k rows that moved up from the first one on. -/
theorem iterUp_gone (n bot : Nat) (x : Scr × List (List C)) (hb : bot < x.2.length) (hg : x.1.gone.length ≤ 50) : ∀ k, k ≤ bot + 1 → (iterN (rUp n 0 bot true) k x).1.gone = last50 (x.1.gone ++ x.2.take k)
  | 0, _ => by
    show x.1.gone = _
    rw [List.take_zero, List.append_nil, last50_short _ hg]
  | k + 1, hk => by
    have ih := iterUp_gone n bot x hb hg k (by omega)
    have hl := iterUp_len n 0 bot true (by omega) x hb k
    have hr : (iterN (rUp n 0 bot true) k x).2.getD 0 [] = x.2.getD k [] := by
      have := iterUp_in n 0 bot true (by omega) x hb k 0 (Nat.le_refl _) (by omega)
      rwa [Nat.zero_add] at this
    show (rUp n 0 bot true (iterN (rUp n 0 bot true) k x)).1.gone = _
    have e : (rUp n 0 bot true (iterN (rUp n 0 bot true) k x)).1.gone = keepG (iterN (rUp n 0 bot true) k x).1.gone ((iterN (rUp n 0 bot true) k x).2.getD 0 []) := by
      unfold rUp
      rw [if_pos ⟨rfl, rfl⟩]
    have e2 : x.2.take (k + 1) = x.2.take k ++ [x.2.getD k []] := by
      have hk' : k < x.2.length := by omega
      rw [List.take_succ_eq_append_getElem hk']
      simp [List.getD, hk']
    rw [e, hr, keepG_last _ _ (by rw [ih]; exact last50_len _), ih, last50_push, e2, List.append_assoc]
end Put
end Go.Proofs.YtnkeahfcpbepjaaGreatDoor

/- What is kept of rows that went. -/
namespace Go.Proofs.YtnkeahfcpbepjaaGreatDoor
open Go.ChangeShapes Go.WideShapes Go.ChangeAt Go.RowKit
namespace Put
open Grd (C)
theorem keepG_mem {g : List (List C)} {row r : List C} (h : r ∈ keepG g row) : r ∈ g ∨ r = row := by
  unfold keepG at h
  split at h
  · simpa using h
  · simpa using List.mem_of_mem_eraseIdx h
theorem keepG_rows {s : Scr} {n hh : Nat} (hR : RightS s n hh) (row : List C) (hr : row.length = n) : ∀ r, r ∈ keepG s.gone row → r.length ≤ 120 := by
  intro r hm
  rcases keepG_mem hm with h | h
  · have := (grid_size (hR.gr r h)).2.1
    omega
  · have := hR.n2
    rw [h, hr]
    omega
theorem rows_le {l : List (List C)} (h : ∀ r, r ∈ l → r.length ≤ 120) (i : Nat) (hi : i < l.length) : (l.getD i []).length ≤ 1048576 := by
  have e : l.getD i [] = l[i] := by simp [List.getD, hi]
  rw [e]
  have := h _ (List.getElem_mem hi)
  omega
theorem gone_le120 {s : Scr} {n hh : Nat} (hR : RightS s n hh) : ∀ r, r ∈ s.gone → r.length ≤ 120 := fun r hr => by
  have := (grid_size (hR.gr r hr)).2.1
  omega
end Put
end Go.Proofs.YtnkeahfcpbepjaaGreatDoor

/- Rows that move leave a right screen right. -/
namespace Go.Proofs.YtnkeahfcpbepjaaGreatDoor
open Go.ChangeShapes Go.WideShapes Go.ChangeAt Go.RowKit
namespace Put
open Grd (C SliceAt CellsAt gridErr z0 nilV flat rowsL RightRow wd32)
open Sty (isSt)
/-- Rows that are right ones, so wide. -/
def RowsRt (n : Nat) (rows : List (List C)) : Prop := ∀ i, i < rows.length → (rows.getD i []).length = n ∧ RightRow (rows.getD i [])
theorem rowsRt_of {s : Scr} {n hh : Nat} (h : RightS s n hh) : RowsRt n (rowsL n s.cs hh) := fun i hi => by
  rw [Grd.rowsL_len] at hi
  have e2 : (rowsL n s.cs hh).getD i [] = Grd.rowAt n s.cs i := by simp [rowsL, List.getD, hi]
  rw [e2]
  exact ⟨Grd.row_len n hh s.cs i h.cl hi, ((Grd.gridErr_zero n hh s.cs).1 h.gz).2.2 i hi⟩
theorem roll_style {s : Scr} {n hh : Nat} (h : RightS s n hh) : isSt (0, s.sb, 0) = true := by
  have h1 := h.looks
  simp only [looksOk, Bool.and_eq_true] at h1
  have h2 := h1.1
  simp only [isSt, decide_eq_true_eq] at h2 ⊢
  omega
theorem roll_ext {a b : List (List C)} (hl : a.length = b.length) (h : ∀ i, i < a.length → a.getD i [] = b.getD i []) : a = b := by
  apply List.ext_getElem hl
  intro i h1 h2
  have := h i h1
  simpa [List.getD, h1, h2] using this
theorem roll_one (n : Nat) (row : List C) (hn1 : 1 ≤ n) (hn2 : n ≤ 120) (hl : row.length = n) (hr : RightRow row) : gridErr n 1 row = 0 := by
  refine (Grd.gridErr_zero n 1 row).2 ⟨?_, by omega, fun y hy => ?_⟩
  · simp [Grd.isSize]
    omega
  · have e : y = 0 := by omega
    subst e
    have e2 : Grd.rowAt n row 0 = row := by
      unfold Grd.rowAt
      rw [Nat.zero_mul, List.drop_zero, List.take_of_length_le (by omega)]
    rw [e2]
    exact hr
theorem roll_rowAt (n : Nat) (rows : List (List C)) (hr : ∀ i, i < rows.length → (rows.getD i []).length = n) (i : Nat) (hi : i < rows.length) : Grd.rowAt n rows.flatten i = rows.getD i [] := by
  have h1 := Grd.flatten_len n rows hr i (by omega)
  have h2 : rows.flatten = (rows.take i).flatten ++ (rows.drop i).flatten := by rw [← List.flatten_append, List.take_append_drop]
  have h3 : rows.getD i [] = rows[i] := by simp [List.getD, hi]
  have h4 := hr i hi
  rw [h3] at h4
  unfold Grd.rowAt
  rw [h2, List.drop_left' h1, List.drop_eq_getElem_cons hi, List.flatten_cons, List.take_left' h4, h3]
theorem roll_blank (n : Nat) (bk : Int) (hs : isSt (0, bk, 0) = true) : RightRow (List.replicate n ((32, 0, bk, 0) : C)) := by
  have hg : ∀ x, x < n → (List.replicate n ((32, 0, bk, 0) : C)).getD x z0 = (32, 0, bk, 0) := fun x hx => by simp [List.getD, hx]
  refine ⟨fun x hx => ?_, fun x hx => ?_⟩
  · rw [List.length_replicate] at hx
    rw [hg x hx]
    exact ⟨fun _ => by dsimp only; rw [wd32]; decide, hs, fun h => absurd h (by simp)⟩
  · rw [List.length_replicate] at hx
    unfold Grd.loose
    rw [hg x hx, if_neg (by simp)]
    dsimp only
    rw [wd32]
    rfl
theorem RowsRt.up {n : Nat} {rows : List (List C)} (h : RowsRt n rows) (bk : Int) (hs : isSt (0, bk, 0) = true) (top bot : Nat) (htb : top ≤ bot) (hb : bot < rows.length) : RowsRt n (replR rows n bk top bot) := fun i hi => by
  rw [replR_len _ _ _ _ _ (by omega) hb] at hi
  rw [replR_up _ _ _ _ _ htb hb]
  split
  · exact h i hi
  · split
    · exact h (i + 1) (by omega)
    · split
      · exact ⟨List.length_replicate, roll_blank n bk hs⟩
      · exact h i hi
theorem RowsRt.down {n : Nat} {rows : List (List C)} (h : RowsRt n rows) (bk : Int) (hs : isSt (0, bk, 0) = true) (top bot : Nat) (htb : top ≤ bot) (hb : bot < rows.length) : RowsRt n (replR rows n bk bot top) := fun i hi => by
  rw [replR_len _ _ _ _ _ hb (by omega)] at hi
  rw [replR_down _ _ _ _ _ htb hb]
  split
  · exact h i hi
  · split
    · exact ⟨List.length_replicate, roll_blank n bk hs⟩
    · split
      · exact h (i - 1) (by omega)
      · exact h i hi
/-- A screen of other rows, and of what else is gone. -/
theorem right_new {s : Scr} {n hh : Nat} (h : RightS s n hh) (g : List (List C)) (rows' : List (List C)) (hl : rows'.length = hh) (hRR : RowsRt n rows') (hg1 : g.length ≤ 50) (hg2 : ∀ row, row ∈ g → gridErr row.length 1 row = 0) : RightS { s with gone := g, cs := rows'.flatten } n hh ∧ rowsL n rows'.flatten hh = rows' := by
  have hlen := Grd.flatten_len n rows' (fun i hi => (hRR i hi).1) hh (by omega)
  rw [← hl, List.take_length, hl, Nat.mul_comm] at hlen
  have hgz : gridErr n hh rows'.flatten = 0 := (Grd.gridErr_zero n hh _).2 ⟨((Grd.gridErr_zero n hh _).1 h.gz).1, hlen, fun y hy => by
    rw [roll_rowAt n rows' (fun i hi => (hRR i hi).1) y (by omega)]
    exact (hRR y (by omega)).2⟩
  refine ⟨⟨h.w, h.h, h.n1, h.n2, h.h1, h.h2, hlen, hgz, h.x0, h.x1, h.y0, h.y1, h.kx0, h.kx1, h.ky0, h.ky1, h.t0, h.t1, h.t2, h.t3, h.late, h.looks, h.tl, h.la, h.ti, hg1, hg2⟩, ?_⟩
  refine roll_ext (by rw [Grd.rowsL_len, hl]) fun i hi => ?_
  rw [Grd.rowsL_len] at hi
  have e2 : (rowsL n rows'.flatten hh).getD i [] = Grd.rowAt n rows'.flatten i := by simp [rowsL, List.getD, hi]
  rw [e2, roll_rowAt n rows' (fun i hi => (hRR i hi).1) i (by omega)]
/-- What stays right while rows move. -/
structure RollsR (s : Scr) (n hh : Nat) (x : Scr × List (List C)) : Prop where
  e : x.1 = { s with gone := x.1.gone }
  l : x.2.length = hh
  r : RowsRt n x.2
  g1 : x.1.gone.length ≤ 50
  g2 : ∀ row, row ∈ x.1.gone → gridErr row.length 1 row = 0
theorem RollsR.start {s : Scr} {n hh : Nat} (h : RightS s n hh) : RollsR s n hh (s, rowsL n s.cs hh) := ⟨rfl, Grd.rowsL_len _ _ _, rowsRt_of h, h.gl, h.gr⟩
theorem RollsR.sb {s : Scr} {n hh : Nat} {x : Scr × List (List C)} (h : RollsR s n hh x) : x.1.sb = s.sb := by rw [h.e]
theorem RollsR.up {s : Scr} {n hh : Nat} {x : Scr × List (List C)} (hR : RightS s n hh) (h : RollsR s n hh x) (top bot : Nat) (keep : Bool) (htb : top ≤ bot) (hb : bot < hh) : RollsR s n hh (rUp n top bot keep x) := by
  have hl := h.l
  have hs : isSt (0, x.1.sb, 0) = true := by rw [h.sb]; exact roll_style hR
  have e1 : (replR x.2 n x.1.sb top bot).length = hh := by rw [replR_len _ _ _ _ _ (by omega) (by omega), hl]
  have e2 := h.r.up x.1.sb hs top bot htb (by omega)
  unfold rUp
  split
  · refine ⟨?_, e1, e2, keepG_len _ _ h.g1, fun r hm => ?_⟩
    · show ({ x.1 with gone := keepG x.1.gone (x.2.getD 0 []) } : Scr) = { s with gone := keepG x.1.gone (x.2.getD 0 []) }
      generalize keepG x.1.gone (x.2.getD 0 []) = gg
      rw [h.e]
    rcases keepG_mem hm with q | q
    · exact h.g2 r q
    · have h0 := h.r 0 (by omega)
      rw [q, h0.1]
      exact roll_one n _ hR.n1 hR.n2 h0.1 h0.2
  · exact ⟨h.e, e1, e2, h.g1, h.g2⟩
theorem RollsR.dn {s : Scr} {n hh : Nat} {x : Scr × List (List C)} (hR : RightS s n hh) (h : RollsR s n hh x) (top bot : Nat) (htb : top ≤ bot) (hb : bot < hh) : RollsR s n hh (rDn n top bot x) := by
  have hl := h.l
  have hs : isSt (0, x.1.sb, 0) = true := by rw [h.sb]; exact roll_style hR
  exact ⟨h.e, by show (replR x.2 n x.1.sb bot top).length = hh; rw [replR_len _ _ _ _ _ (by omega) (by omega), hl], h.r.down x.1.sb hs top bot htb (by omega), h.g1, h.g2⟩
theorem RollsR.iter {s : Scr} {n hh : Nat} {f : Scr × List (List C) → Scr × List (List C)} (hf : ∀ x, RollsR s n hh x → RollsR s n hh (f x)) (x : Scr × List (List C)) (h : RollsR s n hh x) : ∀ j, RollsR s n hh (iterN f j x)
  | 0 => h
  | j + 1 => hf _ (RollsR.iter hf x h j)
theorem RollsR.right {s : Scr} {n hh : Nat} {x : Scr × List (List C)} (hR : RightS s n hh) (h : RollsR s n hh x) : RightS { x.1 with cs := x.2.flatten } n hh ∧ rowsL n x.2.flatten hh = x.2 := by
  have k := right_new hR x.1.gone x.2 h.l h.r h.g1 h.g2
  refine ⟨?_, k.2⟩
  have e : ({ x.1 with cs := x.2.flatten } : Scr) = { s with gone := x.1.gone, cs := x.2.flatten } := by
    have he := h.e
    generalize x.1 = a at he ⊢
    rw [he]
  rw [e]
  exact k.1
end Put
end Go.Proofs.YtnkeahfcpbepjaaGreatDoor

/- Package mode: the closure of Reset. -/
namespace Go.Proofs.YtnkeahfcpbepjaaGreatDoor
set_option linter.unusedVariables false
open Go.ChangeShapes Go.WideShapes Go.ChangeAt Go.RowKit
namespace Put
open Grd (C SliceAt CellsAt gridErr z0 nilV flat rowsL)
/-- All as on a new screen, but for what is gone. -/
def resetS (s : Scr) (n hh : Nat) : Scr := { newScr n hh with gone := s.gone }
theorem new_gz (n hh : Nat) (hs : Grd.isSize n hh = true) : gridErr n hh (newScr n hh).cs = 0 := by
  refine (Grd.gridErr_zero n hh _).2 ⟨hs, by simp [newScr], fun y hy => ?_⟩
  have hle : y * n + n ≤ n * hh := by
    have : (y + 1) * n ≤ hh * n := Nat.mul_le_mul_right n hy
    rw [Nat.mul_comm n hh]
    rw [Nat.add_mul] at this
    omega
  have e : Grd.rowAt n (newScr n hh).cs y = List.replicate n (32, 0, 0, 0) := by
    unfold Grd.rowAt newScr
    dsimp only
    rw [List.drop_replicate, List.take_replicate]
    congr 1
    omega
  rw [e]
  exact roll_blank n 0 (by decide)
theorem still_own {W : World} {N M : Nat} {v : Value} {cs : List C} (h : Grd.OwnG W N v cs) : ∀ b o m c, v = .slice (some ⟨b, o, none⟩) m c → Still W M b := fun b o m c e => by
  obtain ⟨g, cap, rest, ⟨t, ht⟩, hv, -, -, -, hg⟩ := h
  subst ht
  rw [e] at hv
  injection hv with hv
  injection hv with hv
  injection hv with hv _
  subst hv
  exact .inr ⟨_, _, hg⟩
theorem new_off {W W' : World} {M N R n hh : Nat} {cv tv gv : Value} (h : ScrO W M N (newScr n hh) cv tv gv) (hp : 0 < n * hh) (ho : ∀ k, k ≠ R → W'.heap[k]? = W.heap[k]?) (hR : R < N ∨ W.heap.size ≤ R) : Grd.OwnG W' N cv (newScr n hh).cs ∧ W'.ownsRow N 4 1 tv (newScr n hh).tabs.length ((newScr n hh).tabs.map Value.bool) := by
  have hne : ∀ g, N ≤ g → g < W.heap.size → W'.heap[g]? = W.heap[g]? := fun g h1 h2 => ho g (by omega)
  have hO : Grd.OwnG W N cv (newScr n hh).cs := by
    rcases h.c with ⟨he, -⟩ | h1
    · have h1 := congrArg List.length he
      simp [newScr] at h1
      omega
    · exact h1
  have hO' : Grd.OwnG W' N cv (newScr n hh).cs := by
    obtain ⟨g, cap, rest, t, hv, h1, h2, h3, hg⟩ := hO
    exact ⟨g, cap, rest, t, hv, h1, h2, h3, (hne g h1 (heap_lt hg)).trans hg⟩
  have hT : W'.ownsRow N 4 1 tv (newScr n hh).tabs.length ((newScr n hh).tabs.map Value.bool) := owns_kept h.t fun g hg => by
    obtain ⟨h1, A, f, hA⟩ := owns_block h.t g hg
    exact hne g h1 (heap_lt hA)
  exact ⟨hO', hT⟩
theorem alloc_other (W : World) (o : Obj) (k : Nat) (h : k ≠ W.heap.size) : (W.alloc o).heap[k]? = W.heap[k]? := by
  rcases Nat.lt_or_ge k W.heap.size with h1 | h1
  · exact Below.heap_alloc _ _ _ h1
  · rw [Array.getElem?_eq_none h1, Array.getElem?_eq_none (by simp; omega)]
theorem ownG_off {W W' : World} {N R : Nat} {v : Value} {cs : List C} {A : Array Value} {f : Nat × Nat} (h : Grd.OwnG W N v cs) (hR : W.heap[R]? = some (.cells A 32 f)) (ho : ∀ k, k ≠ R → W'.heap[k]? = W.heap[k]?) : Grd.OwnG W' N v cs := by
  obtain ⟨g, cap, rest, t, hv, h1, h2, h3, hg⟩ := h
  refine ⟨g, cap, rest, t, hv, h1, h2, h3, (ho g fun e => ?_).trans hg⟩
  obtain ⟨t, ht⟩ := t
  subst ht
  rw [e, hR] at hg
  injection hg with hg
  injection hg with _ hg _
  exact absurd hg (by decide)
theorem scrV_off {W W' : World} {R : Nat} {s : Scr} {cv tv : Value} {A : Array Value} {f : Nat × Nat} {N : Nat} (hO : Grd.OwnG W N cv s.cs) (hT : W.ownsRow N 4 1 tv s.tabs.length (s.tabs.map Value.bool)) (hR : W.heap[R]? = some (.cells A 32 f)) (ho : ∀ k, k ≠ R → W'.heap[k]? = W.heap[k]?) : SliceAt W' cv s.cs ∧ BoolsV W' tv s.tabs := by
  have h1 : OwnC W' N cv s.cs := .inr (ownG_off hO hR ho)
  refine ⟨h1.cells, own_boolsV (owns_kept hT fun g hg => ho g fun e => ?_)⟩
  obtain ⟨-, B, f', hB⟩ := owns_block hT g hg
  rw [e, hR] at hB
  injection hB with hB
  injection hB with _ hB _
  exact absurd hB (by decide)
section
attribute [local go_sem ↓] store_scr
attribute [local go_sem] isScrS ptrBlk_at aggOf_agg
set_option maxHeartbeats 8000000 in
set_option maxRecDepth 100000 in
theorem reset_does (M : Nat) (w : World) (s : Scr) (rows : List (List C)) (n hh : Nat) (hw : s.w = n) (hh' : s.h = hh) (hs : Grd.isSize n hh = true) (hgl : s.gone.length ≤ 50) :
    Does 70 #[] M w s (resetS s n hh) rows (rowsL n (newScr n hh).cs hh) := by
  intro W p hb hS
  have hN := hb.size
  have HNW : Hid (∀ V, Calls Tryz.prog 71 #[.int .i64 (n : Int), .int .i64 (hh : Int)] V (Made V V (newScr n hh) 0)) := fun V => new_good' n hh V hs
  have HS : Hid (ShAt 64 W M w.heap.size p s rows) := hS
  obtain ⟨ov, otv, ogv, orv, ogvs, ovs, hA⟩ := hS
  obtain ⟨ga, gc, rfl⟩ := own_slice hA.gone
  have HA : Hid (ShA 64 W M w.heap.size p s rows ov otv (.slice ga s.gone.length gc) orv ogvs ovs) := hA
  have SK : Hid (∀ V, Below W.heap.size W V → V.cell? ⟨p, 0, none⟩ = some (.int .i64 (n : Int)) ∧ V.cell? ⟨p, 1, none⟩ = some (.int .i64 (hh : Int))) := fun V h => by
    have hblk := Grd.carry HA.out.blk h
    obtain ⟨⟨c0, c1, -⟩, -, -⟩ := sh_cells hblk
    rw [hw] at c0
    rw [hh'] at c1
    exact ⟨c0, c1⟩
  have HHS : Hid (Grd.isSize n hh = true) := hs
  have b0 : Below W.heap.size W W.drew := (Below.refl _ _).drew
  clear hA hb hs
  show Calls _ _ #[.pointer (some ⟨p, 0, none⟩)] _ _
  go_enter Tryz.func70, Tryz.ntmps70
  have bz : Below W.heap.size W (W.alloc (.cells #[.int .i64 0, .int .i64 0, .slice none 0 0, .int .i64 0, .int .i64 0, .bool false, .int .i64 0, .int .i64 0, .int .i64 0, .int .i64 0, .int .i64 0, .int .i64 0, .slice none 0 0, .int .i64 0, .int .i64 0, .int .i64 0, .int .i64 0, .int .i64 0, .int .i64 0, .int .i32 0, .string ⟨#[]⟩, .slice none 0 0] 32)) := (Below.refl _ _).alloc (Nat.le_refl _) _
  have b0a : Below W.heap.size W (W.alloc (.cells #[.int .i64 0, .int .i64 0, .slice none 0 0, .int .i64 0, .int .i64 0, .bool false, .int .i64 0, .int .i64 0, .int .i64 0, .int .i64 0, .int .i64 0, .int .i64 0, .slice none 0 0, .int .i64 0, .int .i64 0, .int .i64 0, .int .i64 0, .int .i64 0, .int .i64 0, .int .i32 0, .string ⟨#[]⟩, .slice none 0 0] 32)).drew := bz.drew
  have hzb : (W.alloc (.cells #[.int .i64 0, .int .i64 0, .slice none 0 0, .int .i64 0, .int .i64 0, .bool false, .int .i64 0, .int .i64 0, .int .i64 0, .int .i64 0, .int .i64 0, .int .i64 0, .slice none 0 0, .int .i64 0, .int .i64 0, .int .i64 0, .int .i64 0, .int .i64 0, .int .i64 0, .int .i32 0, .string ⟨#[]⟩, .slice none 0 0] 32)).drew.heap[W.heap.size]? = some (.cells #[.int .i64 0, .int .i64 0, .slice none 0 0, .int .i64 0, .int .i64 0, .bool false, .int .i64 0, .int .i64 0, .int .i64 0, .int .i64 0, .int .i64 0, .int .i64 0, .slice none 0 0, .int .i64 0, .int .i64 0, .int .i64 0, .int .i64 0, .int .i64 0, .int .i64 0, .int .i32 0, .string ⟨#[]⟩, .slice none 0 0] 32 (0, 0)) := heap_alloc_new W _
  have hzs : (W.alloc (.cells #[.int .i64 0, .int .i64 0, .slice none 0 0, .int .i64 0, .int .i64 0, .bool false, .int .i64 0, .int .i64 0, .int .i64 0, .int .i64 0, .int .i64 0, .int .i64 0, .slice none 0 0, .int .i64 0, .int .i64 0, .int .i64 0, .int .i64 0, .int .i64 0, .int .i64 0, .int .i32 0, .string ⟨#[]⟩, .slice none 0 0] 32)).drew.heap.size = W.heap.size + 1 := by simp [World.drew]
  have HHP : Hid (0 < n * hh) := by
    have hsz : 1 ≤ (n : Int) ∧ (n : Int) ≤ 120 ∧ 1 ≤ (hh : Int) ∧ (hh : Int) ≤ 60 := by simpa [Grd.isSize] using HHS.out
    exact Nat.mul_pos (by omega) (by omega)
  go_upto_region 0 with fail
  go_cut [2] from 3 to 28 (fun c wx => ∃ (B N' : Nat) (a1 a2 a3 : Option Addr) (n1 n2 n3 c1 c2' c3 : Nat), c = .pointer (some ⟨B, 0, none⟩) ∧ W.heap.size ≤ B ∧ wx.heap[B]? = some (.cells (scrA (newScr n hh) (.slice a1 n1 c1) (.slice a2 n2 c2') (.slice a3 n3 c3)) 32 (0, 0)) ∧ Grd.OwnG wx N' (.slice a1 n1 c1) (newScr n hh).cs ∧ wx.ownsRow N' 4 1 (.slice a2 n2 c2') (newScr n hh).tabs.length ((newScr n hh).tabs.map Value.bool) ∧ Below W.heap.size W wx)
  case first =>
    go_region_held3 (fun w' => w'.cell? ⟨p, 0, none⟩ = some (.int .i64 (n : Int)) ∧ w'.cell? ⟨p, 1, none⟩ = some (.int .i64 (hh : Int)))
      (first | exact K4.out | exact K3.out | exact SK.out _ q2 | exact SK.out _ b0a | exact SK.out _ bz | exact SK.out _ b0)
      (first | (go_at_call 71; refine (HNW.out _).mono ?_; rintro e V2 ⟨cv', tv', gv', rfl, hO, c2⟩; have q2 : Below W.heap.size W V2 := b0a.trans (c2.mono b0a.size); obtain ⟨a1, n1, c1, a2, n2, c2', a3, n3, c3, rfl, rfl, rfl⟩ := hO.shapes; have hbx := Grd.carry hzb c2; have sp := scrPtr0_of hbx rfl; have K3 : Hid (V2.cell? _ = _ ∧ V2.cell? _ = _) := SK.out _ q2; have K4 : Hid _ := SK.out _ (below_setRow q2 (Nat.le_refl _) (scrA (newScr n hh) (.slice a1 n1 c1) (.slice a2 n2 c2') (.slice a3 n3 c3))); have HF2 : Hid _ := And.intro (setRow_heap _ _ _ (scrA (newScr n hh) (.slice a1 n1 c1) (.slice a2 n2 c2') (.slice a3 n3 c3)) _ _ hbx) (And.intro (new_off (R := W.heap.size) hO HHP.out (fun k hk => setRow_other V2 W.heap.size k (scrA (newScr n hh) (.slice a1 n1 c1) (.slice a2 n2 c2') (.slice a3 n3 c3)) hk) (.inl (by omega))) (below_setRow q2 (Nat.le_refl _) (scrA (newScr n hh) (.slice a1 n1 c1) (.slice a2 n2 c2') (.slice a3 n3 c3)))); have HBL : Hid (W.heap.size ≤ W.heap.size) := Nat.le_refl _; clear hO c2 hbx) | (go_at_call 71; refine (HNW.out _).mono ?_; rintro e V2 ⟨cv', tv', gv', rfl, hO, c2⟩; have q2 : Below W.heap.size W V2 := b0.trans (c2.mono b0.size); obtain ⟨a1, n1, c1, a2, n2, c2', a3, n3, c3, rfl, rfl, rfl⟩ := hO.shapes; have sp := scrPtr0_of (heap_alloc_new V2 (.cells #[.int .i64 0, .int .i64 0, .slice none 0 0, .int .i64 0, .int .i64 0, .bool false, .int .i64 0, .int .i64 0, .int .i64 0, .int .i64 0, .int .i64 0, .int .i64 0, .slice none 0 0, .int .i64 0, .int .i64 0, .int .i64 0, .int .i64 0, .int .i64 0, .int .i64 0, .int .i32 0, .string ⟨#[]⟩, .slice none 0 0] 32)) rfl; have q3 := q2.alloc q2.size (.cells #[.int .i64 0, .int .i64 0, .slice none 0 0, .int .i64 0, .int .i64 0, .bool false, .int .i64 0, .int .i64 0, .int .i64 0, .int .i64 0, .int .i64 0, .int .i64 0, .slice none 0 0, .int .i64 0, .int .i64 0, .int .i64 0, .int .i64 0, .int .i64 0, .int .i64 0, .int .i32 0, .string ⟨#[]⟩, .slice none 0 0] 32); have K3 : Hid _ := SK.out _ q3; have K4 : Hid _ := SK.out _ (below_setRow q3 q2.size (scrA (newScr n hh) (.slice a1 n1 c1) (.slice a2 n2 c2') (.slice a3 n3 c3))); have HF2 : Hid _ := And.intro (setRow_heap _ _ _ (scrA (newScr n hh) (.slice a1 n1 c1) (.slice a2 n2 c2') (.slice a3 n3 c3)) _ _ (heap_alloc_new V2 (.cells #[.int .i64 0, .int .i64 0, .slice none 0 0, .int .i64 0, .int .i64 0, .bool false, .int .i64 0, .int .i64 0, .int .i64 0, .int .i64 0, .int .i64 0, .int .i64 0, .slice none 0 0, .int .i64 0, .int .i64 0, .int .i64 0, .int .i64 0, .int .i64 0, .int .i64 0, .int .i32 0, .string ⟨#[]⟩, .slice none 0 0] 32))) (And.intro (new_off (R := V2.heap.size) hO HHP.out (fun k hk => (setRow_other (V2.alloc (.cells #[.int .i64 0, .int .i64 0, .slice none 0 0, .int .i64 0, .int .i64 0, .bool false, .int .i64 0, .int .i64 0, .int .i64 0, .int .i64 0, .int .i64 0, .int .i64 0, .slice none 0 0, .int .i64 0, .int .i64 0, .int .i64 0, .int .i64 0, .int .i64 0, .int .i64 0, .int .i32 0, .string ⟨#[]⟩, .slice none 0 0] 32)) V2.heap.size k (scrA (newScr n hh) (.slice a1 n1 c1) (.slice a2 n2 c2') (.slice a3 n3 c3)) hk).trans (alloc_other V2 (.cells #[.int .i64 0, .int .i64 0, .slice none 0 0, .int .i64 0, .int .i64 0, .bool false, .int .i64 0, .int .i64 0, .int .i64 0, .int .i64 0, .int .i64 0, .int .i64 0, .slice none 0 0, .int .i64 0, .int .i64 0, .int .i64 0, .int .i64 0, .int .i64 0, .int .i64 0, .int .i32 0, .string ⟨#[]⟩, .slice none 0 0] 32) k hk)) (.inr (Nat.le_refl _))) (below_setRow q3 q2.size (scrA (newScr n hh) (.slice a1 n1 c1) (.slice a2 n2 c2') (.slice a3 n3 c3)))); have HBL : Hid (W.heap.size ≤ V2.heap.size) := q2.size; clear hO c2))
    all_goals go_wp2_with fail
    all_goals go_meet
    all_goals exact ⟨_, _, a1, a2, a3, n1, n2, n3, c1, c2', c3, rfl, HBL.out, HF2.out.1, HF2.out.2.1.1, HF2.out.2.1.2, HF2.out.2.2⟩
  case rest =>
   obtain ⟨B, N', a1, a2, a3, n1, n2, n3, c1, c2', c3, rfl, hBW, hYB, hOG0, hsv0, hY⟩ := hcut
   have HY : Hid (Below W.heap.size W wc) := hY
   have HYB : Hid (wc.heap[B]? = _) := hYB
   have HOG : Hid _ := hOG0
   have HSV : Hid _ := hsv0
   clear hY hYB hOG0 hsv0 bz b0a b0 hzb hzs SK HNW
   generalize wc = Y at *
   have hpY := Grd.carry HA.out.blk HY.out
   obtain ⟨-, ⟨-, -, -, -, -, -, -, -, -, -, c21, -⟩, -⟩ := sh_cells hpY
   obtain ⟨-, ⟨-, -, -, -, -, -, -, -, -, -, d21⟩, dfz⟩ := scr_cells HYB.out
   have f21 := dfz 21
   have HZB : Hid ((Y.setCell ⟨B, 21, none⟩ (.slice ga s.gone.length gc)).heap[B]? = some (.cells (scrA (resetS s n hh) (.slice a1 n1 c1) (.slice a2 n2 c2') (.slice ga s.gone.length gc)) 32 (0, 0))) := store_at HYB.out rfl
   have hZ : Below W.heap.size W (Y.setCell ⟨B, 21, none⟩ (.slice ga s.gone.length gc)) := HY.out.setCell hBW _
   have hAZ := ShA.next HA.out hZ
   have hoff : ∀ k, k ≠ B → (Y.setCell ⟨B, 21, none⟩ (.slice ga s.gone.length gc)).heap[k]? = Y.heap[k]? := fun k hk => store_off hk
   have hOG := ownG_off HOG.out HYB.out hoff
   have hsv := scrV_off (s := newScr n hh) HOG.out HSV.out HYB.out hoff
   have hgv : GoneV (Y.setCell ⟨B, 21, none⟩ (.slice ga s.gone.length gc)) w.heap.size (.slice ga s.gone.length gc) s.gone.length ogvs := GoneV.of hAZ.gone
   have hgv0 : GoneV (Y.setCell ⟨B, 21, none⟩ (.slice ga s.gone.length gc)) 0 (.slice ga s.gone.length gc) s.gone.length ogvs := by
     obtain ⟨h0, h | ⟨g, o, cap, A, hv, h1, h2⟩⟩ := hgv
     · exact ⟨h0, .inl h⟩
     · exact ⟨h0, .inr ⟨g, o, cap, A, hv, Nat.zero_le _, h2⟩⟩
   have hFit : Fits (resetS s n hh) := by
     have hsz : 1 ≤ (n : Int) ∧ (n : Int) ≤ 120 ∧ 1 ≤ (hh : Int) ∧ (hh : Int) ≤ 60 := by simpa [Grd.isSize] using HHS.out
     refine ⟨by show (-9223372036854775808 : Int) ≤ 4; decide, by show (4 : Int) ≤ 9223372036854775807; decide, by show (-9223372036854775808 : Int) ≤ 4; decide, by show (4 : Int) ≤ 9223372036854775807; decide, by show (0 : Nat) ≤ 1048576; decide, ?_, ?_⟩
     · show s.gone.length ≤ 1048576
       omega
     · show (newTabs n).length ≤ 1048576
       have : (newTabs n).length = n := by simp [newTabs]
       omega
   have HBC := become_any M w.heap.size p n hh s (resetS s n hh) rows (.slice a1 n1 c1) (.slice a2 n2 c2') (.slice ga s.gone.length gc) ogvs _ ⟨_, _, _, _, _, _, hAZ⟩ (Nat.le_trans hN hZ.size) (still_own hOG) hgv0 hAZ.gin ⟨hsv.1, hsv.2, hgv.rowsV hAZ.gin.list⟩ hFit rfl rfl (new_gz n hh HHS.out)
   have HZW : Hid _ := hZ
   clear hAZ hOG hsv hgv hgv0 hZ dfz hpY HYB HA HS HHS hoff hFit HOG HSV
   go_upto_region 2 with fail
   generalize (Y.setCell ⟨B, 21, none⟩ (.slice ga s.gone.length gc)) = Z at *
   clear c21 d21 f21
   go_wp2_with (refine wpList_load_row rfl 32 (.tmp 2) rfl B rfl _ _ _ _ HZB.out Tryz.underlying32 rfl (by kernel_rfl) ?_)
   refine HBC.mono ?_
   rintro e U ⟨rfl, hU, bU⟩
   have HU : Hid _ := hU
   have HBU : Hid (Below w.heap.size W U) := (HZW.out.mono hN).trans bU
   clear hU bU HBC
   go_wp2_with fail
   go_end0
   exact ⟨rfl, HU.out, HBU.out⟩
end
end Put
end Go.Proofs.YtnkeahfcpbepjaaGreatDoor

/- put.New where there is no such size; the reference's NewScreen. -/
namespace Go.Proofs.YtnkeahfcpbepjaaGreatDoor
open Go.ChangeShapes Go.WideShapes Go.ChangeAt Go.RowKit
namespace Put
open Grd (C SliceAt CellsAt gridErr z0 nilV isSize OwnG flat)
set_option maxHeartbeats 4000000 in
set_option maxRecDepth 100000 in
theorem new_bad' (a h : Int) (w : World) (hs : isSize a h = false) : Calls Tryz.prog 71 #[.int .i64 a, .int .i64 h] w (Made w w zScr 3) := by
  have HN : Hid (∀ W, Calls Tryz.prog 128 #[.int .i64 a, .int .i64 h] W fun e w' => e = .returned (.tuple #[.agg #[.int .i64 0, .int .i64 0, .slice none 0 0], .int .i64 3]) ∧ Below W.heap.size W w') := fun W => Grd.new_bad a h W hs
  have hx0 := heap_alloc_new w (.cells #[.int .i64 0, .int .i64 0, .slice none 0 0, .int .i64 0, .int .i64 0, .bool false, .int .i64 0, .int .i64 0, .int .i64 0, .int .i64 0, .int .i64 0, .int .i64 0, .slice none 0 0, .int .i64 0, .int .i64 0, .int .i64 0, .int .i64 0, .int .i64 0, .int .i64 0, .int .i32 0, .string ⟨#[]⟩, .slice none 0 0] 32)
  have kb : Below w.heap.size w (w.alloc (.cells #[.int .i64 0, .int .i64 0, .slice none 0 0, .int .i64 0, .int .i64 0, .bool false, .int .i64 0, .int .i64 0, .int .i64 0, .int .i64 0, .int .i64 0, .int .i64 0, .slice none 0 0, .int .i64 0, .int .i64 0, .int .i64 0, .int .i64 0, .int .i64 0, .int .i64 0, .int .i32 0, .string ⟨#[]⟩, .slice none 0 0] 32)) := (Below.refl _ _).alloc (Nat.le_refl _) _
  have HX0 : Hid _ := hx0
  have HKB : Hid _ := kb
  clear hs hx0 kb
  go_enter Tryz.func71, Tryz.ntmps71
  go_wp2_with fail
  refine (HN.out _).mono ?_
  rintro e W1 ⟨rfl, b1⟩
  have hb1 : Below w.heap.size w W1 := HKB.out.trans (b1.mono HKB.out.size)
  have bg : Below W1.heap.size W1 (W1.alloc (.cells #[.int .i64 0, .int .i64 0, .slice none 0 0] 24)) := (Below.refl _ _).alloc (Nat.le_refl _) _
  have HX2 : Hid ((W1.alloc (.cells #[.int .i64 0, .int .i64 0, .slice none 0 0] 24)).heap[w.heap.size]? = _) := Grd.carry (Grd.carry HX0.out b1) bg
  have HB2 : Hid (Below w.heap.size w (W1.alloc (.cells #[.int .i64 0, .int .i64 0, .slice none 0 0] 24))) := hb1.trans (bg.mono hb1.size)
  clear b1 hb1 bg
  go_wp2_with (refine wpList_store_row rfl 32 (.tmp 4) (.tmp 18) rfl w.heap.size (scrA zScr (.slice none 0 0) (.slice none 0 0) (.slice none 0 0)) rfl rfl _ _ HX2.out (by kernel_rfl) rfl (scr_one zScr _ _ _ _ _ _ _ _ _) ?_)
  (try simp only [Exit.inBlock, Exit.then])
  refine bodyPost_ret (v := .tuple #[.agg (scrA zScr (.slice none 0 0) (.slice none 0 0) (.slice none 0 0)), .int .i64 3]) ?_ rfl ⟨_, _, _, rfl, zScr_own _ _ _, below_setRow HB2.out (Nat.le_refl _) _⟩
  exact Grd.results_row_tmp rfl _ _ w.heap.size _ _ _ _ rfl (setRow_heap _ _ _ _ _ _ HX2.out) Tryz.underlying32 rfl (by kernel_rfl) _ rfl
theorem newTabs_len (n : Nat) : (newTabs n).length = n := by simp [newTabs]
theorem newTabs_next (n k : Nat) (h : k < n) : (newTabs n).take (k + 1) = (newTabs n).take k ++ [decide (0 < k ∧ k % 8 = 0)] := by
  rw [take_next (newTabs n) k false (by rw [newTabs_len]; exact h)]
  have e : (newTabs n).getD k false = decide (0 < k ∧ k % 8 = 0) := by simp [newTabs, List.getD, h]
  rw [e]
theorem build_new2_run (W : World) (a b y : Int) (q : Option Addr) (l c : Nat) : (Instr.build 32 #[(0, .agg #[.int .i64 a, .int .i64 b, .slice q l c]), (6, .int .i64 y), (7, .int .i64 4), (9, .agg #[.int .i64 0, .int .i64 0, .int .i64 0, .int .i64 0, .int .i64 0, .int .i64 4])]).run Tryz.prog W = .ok (.agg (scrA (preScr a b y) (.slice q l c) (.slice none 0 0) (.slice none 0 0))) W := by kernel_rfl
theorem build_new2 (a : Act) (dst : Option Tmp) (x y z : Operand) (ty : TypeId) (pos : String) (after : Array Edge) (guard : Option (Nat × Bool)) (W : World) (hx : IsGridV (a.eval x)) (hy : IsIntV (a.eval y)) (hz : IsKeptV (a.eval z)) :
    (execOp a.eval { dst, op := .build 32 #[(0, x), (6, y), (7, Operand.const (.int .i64 4)), (9, z)], type := ty, pos, after, guard }).run Tryz.prog W = .ok (.value (.agg (newArr (a.eval x) (a.eval y) (.slice none 0 0)))) W := by
  obtain ⟨a1, b1, q, l, c, hx⟩ := hx
  obtain ⟨y1, hy⟩ := hy
  unfold IsKeptV at hz
  have e4 : a.eval (Operand.const (.int .i64 4)) = .int .i64 4 := rfl
  unfold execOp
  simp only [List.map_toArray, List.map_cons, List.map_nil, hx, hy, hz, e4, newArr_scr, Sem.run_bind, build_new2_run, Sem.run_pure, Result.andThen_ok]
section
attribute [local go_sem ↓] build_new2
attribute [local go_sem] isGridV isIntV isKeptV newArr_scr
set_option maxHeartbeats 4000000 in
set_option maxRecDepth 100000 in
theorem newScreen_own (n hh : Nat) (w : World) (hs : isSize n hh = true) : Calls Tryz.prog 103 #[.int .i64 (n : Int), .int .i64 (hh : Int)] w fun e W' => ∃ cv' tv' gv', e = .returned (.agg (scrA (newScr n hh) cv' tv' gv')) ∧ gv' = .slice none 0 0 ∧ Grd.OwnG W' w.heap.size cv' (newScr n hh).cs ∧ W'.ownsRow w.heap.size 4 1 tv' (newScr n hh).tabs.length ((newScr n hh).tabs.map Value.bool) ∧ Below w.heap.size w W' := by
  have hsz : 1 ≤ (n : Int) ∧ (n : Int) ≤ 120 ∧ 1 ≤ (hh : Int) ∧ (hh : Int) ≤ 60 := by simpa [Grd.isSize] using hs
  obtain ⟨w1, w2, w3, w4⟩ := hsz
  have HN : Hid (∀ W, Calls Tryz.prog 146 #[.int .i64 (n : Int), .int .i64 (hh : Int)] W fun e w' => ∃ v, e = .returned (.agg #[.int .i64 (n : Int), .int .i64 (hh : Int), v]) ∧ OwnG w' W.heap.size v (List.replicate (n * hh) (32, 0, 0, 0)) ∧ Below W.heap.size W w') := fun W => by
    have h := Grd.newGrid_any (n : Int) (hh : Int) W hs
    have e : ((n : Int) * (hh : Int)).toNat = n * hh := by rw [← Int.natCast_mul, Int.toNat_natCast]
    rw [e] at h
    exact h
  obtain ⟨i0, hi, hzz⟩ := Option.map_eq_some_iff.1 info_bool
  simp only [Prod.mk.injEq] at hzz
  obtain ⟨hz0, hz1, hz2⟩ := hzz
  have hx0 := heap_alloc_new w (.cells #[.int .i64 0, .int .i64 0, .slice none 0 0, .int .i64 0, .int .i64 0, .bool false, .int .i64 0, .int .i64 0, .int .i64 0, .int .i64 0, .int .i64 0, .int .i64 0, .slice none 0 0, .int .i64 0, .int .i64 0, .int .i64 0, .int .i64 0, .int .i64 0, .int .i64 0, .int .i32 0, .string ⟨#[]⟩, .slice none 0 0] 32)
  have kb : Below w.heap.size w (w.alloc (.cells #[.int .i64 0, .int .i64 0, .slice none 0 0, .int .i64 0, .int .i64 0, .bool false, .int .i64 0, .int .i64 0, .int .i64 0, .int .i64 0, .int .i64 0, .int .i64 0, .slice none 0 0, .int .i64 0, .int .i64 0, .int .i64 0, .int .i64 0, .int .i64 0, .int .i64 0, .int .i32 0, .string ⟨#[]⟩, .slice none 0 0] 32)) := (Below.refl _ _).alloc (Nat.le_refl _) _
  have HX0 : Hid _ := hx0
  have HKB : Hid _ := kb
  have hwr : IntKind.i64.wrap ((hh : Int) - 1) = (hh : Int) - 1 := by rw [IntKind.wrap_i64]; omega
  clear hs hx0 kb
  go_enter Tryz.func103, Tryz.ntmps103
  go_wp2_with fail
  refine (HN.out _).mono ?_
  rintro e W1 ⟨v, rfl, ho, b1⟩
  obtain ⟨g, cap, rest, ⟨t, ht⟩, hv, hg1, hcap1, hcap2, hgh⟩ := ho
  subst ht
  obtain ⟨L, hL⟩ : ∃ L, L = List.replicate (n * hh) ((32, 0, 0, 0) : C) := ⟨_, rfl⟩
  rw [← hL] at hv hcap1 hgh
  subst hv
  have HLL : Hid (L = List.replicate (n * hh) (32, 0, 0, 0)) := hL
  have HRB : Hid (Grd.RowB W1 g (.slice (some ⟨g, 0, none⟩) L.length cap) L) := ⟨cap, rest, rfl, hcap1, hcap2, hgh⟩
  have hb1 : Below w.heap.size w W1 := HKB.out.trans (b1.mono HKB.out.size)
  have hX1 := Grd.carry HX0.out b1
  have hg0 : w.heap.size < g := by simp at hg1; omega
  have hgl := heap_lt hgh
  have HA : Hid ((W1.alloc (.cells #[.int .i64 0, .int .i64 0, .slice none 0 0, .int .i64 0, .int .i64 0, .bool false, .int .i64 0, .int .i64 0, .int .i64 0, .int .i64 0, .int .i64 0, .int .i64 0, .slice none 0 0, .int .i64 0, .int .i64 0, .int .i64 0, .int .i64 0, .int .i64 0, .int .i64 0, .int .i32 0, .string ⟨#[]⟩, .slice none 0 0] 32)).heap[W1.heap.size]? = some (.cells #[.int .i64 0, .int .i64 0, .slice none 0 0, .int .i64 0, .int .i64 0, .bool false, .int .i64 0, .int .i64 0, .int .i64 0, .int .i64 0, .int .i64 0, .int .i64 0, .slice none 0 0, .int .i64 0, .int .i64 0, .int .i64 0, .int .i64 0, .int .i64 0, .int .i64 0, .int .i32 0, .string ⟨#[]⟩, .slice none 0 0] 32 (0, 0))) := heap_alloc_new _ _
  have h1 : Below W1.heap.size W1 ((W1.alloc (.cells #[.int .i64 0, .int .i64 0, .slice none 0 0, .int .i64 0, .int .i64 0, .bool false, .int .i64 0, .int .i64 0, .int .i64 0, .int .i64 0, .int .i64 0, .int .i64 0, .slice none 0 0, .int .i64 0, .int .i64 0, .int .i64 0, .int .i64 0, .int .i64 0, .int .i64 0, .int .i32 0, .string ⟨#[]⟩, .slice none 0 0] 32)).setRow W1.heap.size (scrA (preScr (n : Int) (hh : Int) ((hh : Int) - 1)) (.slice (some ⟨g, 0, none⟩) L.length cap) (.slice none 0 0) (.slice none 0 0))) := below_setRow ((Below.refl _ _).alloc (Nat.le_refl _) _) (Nat.le_refl _) _
  have HY1 : Hid (((W1.alloc (.cells #[.int .i64 0, .int .i64 0, .slice none 0 0, .int .i64 0, .int .i64 0, .bool false, .int .i64 0, .int .i64 0, .int .i64 0, .int .i64 0, .int .i64 0, .int .i64 0, .slice none 0 0, .int .i64 0, .int .i64 0, .int .i64 0, .int .i64 0, .int .i64 0, .int .i64 0, .int .i32 0, .string ⟨#[]⟩, .slice none 0 0] 32)).setRow W1.heap.size (scrA (preScr (n : Int) (hh : Int) ((hh : Int) - 1)) (.slice (some ⟨g, 0, none⟩) L.length cap) (.slice none 0 0) (.slice none 0 0))).heap[W1.heap.size]? = some (.cells (scrA (preScr (n : Int) (hh : Int) ((hh : Int) - 1)) (.slice (some ⟨g, 0, none⟩) L.length cap) (.slice none 0 0) (.slice none 0 0)) 32 (0, 0))) := setRow_heap _ _ _ _ _ _ (heap_alloc_new W1 _)
  have HY0 : Hid (((W1.alloc (.cells #[.int .i64 0, .int .i64 0, .slice none 0 0, .int .i64 0, .int .i64 0, .bool false, .int .i64 0, .int .i64 0, .int .i64 0, .int .i64 0, .int .i64 0, .int .i64 0, .slice none 0 0, .int .i64 0, .int .i64 0, .int .i64 0, .int .i64 0, .int .i64 0, .int .i64 0, .int .i32 0, .string ⟨#[]⟩, .slice none 0 0] 32)).setRow W1.heap.size (scrA (preScr (n : Int) (hh : Int) ((hh : Int) - 1)) (.slice (some ⟨g, 0, none⟩) L.length cap) (.slice none 0 0) (.slice none 0 0))).heap[w.heap.size]? = _) := Grd.carry hX1 h1
  have HRB2 : Hid (Grd.RowB ((W1.alloc (.cells #[.int .i64 0, .int .i64 0, .slice none 0 0, .int .i64 0, .int .i64 0, .bool false, .int .i64 0, .int .i64 0, .int .i64 0, .int .i64 0, .int .i64 0, .int .i64 0, .slice none 0 0, .int .i64 0, .int .i64 0, .int .i64 0, .int .i64 0, .int .i64 0, .int .i64 0, .int .i32 0, .string ⟨#[]⟩, .slice none 0 0] 32)).setRow W1.heap.size (scrA (preScr (n : Int) (hh : Int) ((hh : Int) - 1)) (.slice (some ⟨g, 0, none⟩) L.length cap) (.slice none 0 0) (.slice none 0 0))) g (.slice (some ⟨g, 0, none⟩) L.length cap) L) := HRB.out.below h1
  have HBY : Hid (Below w.heap.size w ((W1.alloc (.cells #[.int .i64 0, .int .i64 0, .slice none 0 0, .int .i64 0, .int .i64 0, .bool false, .int .i64 0, .int .i64 0, .int .i64 0, .int .i64 0, .int .i64 0, .int .i64 0, .slice none 0 0, .int .i64 0, .int .i64 0, .int .i64 0, .int .i64 0, .int .i64 0, .int .i64 0, .int .i32 0, .string ⟨#[]⟩, .slice none 0 0] 32)).setRow W1.heap.size (scrA (preScr (n : Int) (hh : Int) ((hh : Int) - 1)) (.slice (some ⟨g, 0, none⟩) L.length cap) (.slice none 0 0) (.slice none 0 0)))) := hb1.trans (h1.mono hb1.size)
  have hw1 := hb1.size
  have hw0 := heap_lt hX1
  clear b1 hX1 h1 HRB hgh hL hb1
  go_upto_region 2 with (refine wpList_store_row rfl 32 (.tmp 5) _ rfl W1.heap.size (scrA (preScr (n : Int) (hh : Int) ((hh : Int) - 1)) (.slice (some ⟨g, 0, none⟩) L.length cap) (.slice none 0 0) (.slice none 0 0)) rfl rfl _ _ HA.out (by kernel_rfl) rfl (scr_one _ _ _ _ _ _ _ _ _ _) ?_)
  clear HA
  generalize ((W1.alloc (.cells #[.int .i64 0, .int .i64 0, .slice none 0 0, .int .i64 0, .int .i64 0, .bool false, .int .i64 0, .int .i64 0, .int .i64 0, .int .i64 0, .int .i64 0, .int .i64 0, .slice none 0 0, .int .i64 0, .int .i64 0, .int .i64 0, .int .i64 0, .int .i64 0, .int .i64 0, .int .i32 0, .string ⟨#[]⟩, .slice none 0 0] 32)).setRow W1.heap.size (scrA (preScr (n : Int) (hh : Int) ((hh : Int) - 1)) (.slice (some ⟨g, 0, none⟩) L.length cap) (.slice none 0 0) (.slice none 0 0))) = X at *
  go_wp2_with fail
  go_loopg [15] n (fun q i wr => ∃ (k : Nat) (tv : Value), i = .int .i64 (k : Int) ∧ k ≤ n ∧ n - k ≤ q ∧ wr.heap[W1.heap.size]? = some (.cells (scrA (preScr (n : Int) (hh : Int) ((hh : Int) - 1)) (.slice (some ⟨g, 0, none⟩) L.length cap) tv (.slice none 0 0)) 32 (0, 0)) ∧ wr.heap[w.heap.size]? = some (.cells #[.int .i64 0, .int .i64 0, .slice none 0 0, .int .i64 0, .int .i64 0, .bool false, .int .i64 0, .int .i64 0, .int .i64 0, .int .i64 0, .int .i64 0, .int .i64 0, .slice none 0 0, .int .i64 0, .int .i64 0, .int .i64 0, .int .i64 0, .int .i64 0, .int .i64 0, .int .i32 0, .string ⟨#[]⟩, .slice none 0 0] 32 (0, 0)) ∧ Grd.RowB wr g (.slice (some ⟨g, 0, none⟩) L.length cap) L ∧ wr.ownsRow (W1.heap.size + 1) 4 1 tv k (((newTabs n).take k).map Value.bool) ∧ Below w.heap.size w wr)
  case atStart => exact ⟨0, .slice none 0 0, rfl, by omega, by omega, HY1.out, HY0.out, HRB2.out, by rw [List.take_zero]; exact World.ownsRow_nil _ _ _ _, HBY.out⟩
  case round =>
    clear HY1 HY0 HRB2 HBY
    obtain ⟨k, tv, rfl, hk, hq, hy1, hy0, hrb, hown, hb⟩ := hrel
    obtain ⟨ta, tc, rfl⟩ := own_slice hown
    have HY1 : Hid (wr.heap[W1.heap.size]? = _) := hy1
    have HY0 : Hid (wr.heap[w.heap.size]? = _) := hy0
    have HRB : Hid (Grd.RowB wr g _ L) := hrb
    have HO : Hid (wr.ownsRow (W1.heap.size + 1) 4 1 _ k _) := hown
    have HB : Hid (Below w.heap.size w wr) := hb
    have hN := heap_lt hy1
    clear hy0 hrb hown hb
    by_cases hlt : k < n
    · have lt1 : ((k : Int) < (n : Int)) := by omega
      have c12 := (scr_cells hy1).2.1.2.1
      have HNX : Hid ((newTabs n).take (k + 1) = (newTabs n).take k ++ [decide (0 < k ∧ k % 8 = 0)]) := newTabs_next n k hlt
      obtain ⟨bb, hbb⟩ : ∃ bb, bb = decide (0 < k ∧ k % 8 = 0) := ⟨_, rfl⟩
      have HBB : Hid (bb = decide (0 < k ∧ k % 8 = 0)) := hbb
      clear hy1 hbb
      by_cases k0 : 0 < k
      · have k1 : (0 : Int) < (k : Int) := by omega
        have hmod : IntKind.i64.wrap ((k : Int) % 8) = (k : Int) % 8 := by rw [IntKind.wrap_i64]; omega
        have HM : Hid (((k : Int) % 8 == 0) = bb) := by
          unfold Hid
          rw [HBB.out, Bool.eq_iff_iff]
          simp
          omega
        have hm := HM.out
        go_wp2_with (at_builtin; refine Hid.out ?_)
        unfold Hid
        refine wpList_append_own _ rfl _ _ 27 rfl (W1.heap.size + 1) 4 i0 (.bool false) 1 1 und_bools hi hz0 hz1 hz2 rfl (by decide) _ _ _ rfl (HO.out.alloc _) ⟨wr.heap.size, 0, none⟩ 1 1 [.bool bb] rfl rfl (cell_one_new _ _ _) (by intro u hu; simp at hu; rw [hu]; rfl) (by unfold maxLen; omega) (by omega) (by simp; omega) ?_
        intro v3 W3 hown3 hgrow hnil
        obtain ⟨ta3, tc3, rfl⟩ := own_slice hown3
        have kZ : Below wr.heap.size wr (wr.alloc (.cells #[.bool bb] 4)) := (Below.refl _ _).alloc (Nat.le_refl _) _
        have hfrom := Grd.own_from HO.out
        have hA3 : W3.heap[W1.heap.size]? = _ := (hgrow.block _ (by simp; omega) (fun e => by have := hfrom _ e.symm; omega)).trans (Grd.carry HY1.out kZ)
        have hB3 : W3.heap[w.heap.size]? = _ := (hgrow.block _ (by simp; omega) (fun e => by have := hfrom _ e.symm; omega)).trans (Grd.carry HY0.out kZ)
        have hR3 : Grd.RowB W3 g (.slice (some ⟨g, 0, none⟩) L.length cap) L := by
          obtain ⟨cap', rest', q0, q1, q2, q3⟩ := HRB.out
          exact ⟨cap', rest', q0, q1, q2, (hgrow.block _ (by have := heap_lt q3; simp; omega) (fun e => by have := hfrom _ e.symm; omega)).trans (Grd.carry q3 kZ)⟩
        have hBB3 : Below w.heap.size w W3 := (HB.out.alloc HB.out.size _).grown hgrow (by have := HB.out.size; simp; omega) (fun q hq => by have := hfrom q hq; omega)
        have f12 := (scr_cells hA3).2.2 12
        have d12 := (scr_cells hA3).2.1.2.1
        have HZ1 : Hid ((W3.setCell ⟨W1.heap.size, 12, none⟩ (.slice ta3 (k + 1) tc3)).heap[W1.heap.size]? = some (.cells (scrA (preScr (n : Int) (hh : Int) ((hh : Int) - 1)) (.slice (some ⟨g, 0, none⟩) L.length cap) (.slice ta3 (k + 1) tc3) (.slice none 0 0)) 32 (0, 0))) := store_at hA3 rfl
        have HZ0 : Hid ((W3.setCell ⟨W1.heap.size, 12, none⟩ (.slice ta3 (k + 1) tc3)).heap[w.heap.size]? = _) := (store_off (by omega)).trans hB3
        have HZR : Hid (Grd.RowB (W3.setCell ⟨W1.heap.size, 12, none⟩ (.slice ta3 (k + 1) tc3)) g (.slice (some ⟨g, 0, none⟩) L.length cap) L) := by
          obtain ⟨cap', rest', q0, q1, q2, q3⟩ := hR3
          exact ⟨cap', rest', q0, q1, q2, (store_off (by omega)).trans q3⟩
        have HZO : Hid ((W3.setCell ⟨W1.heap.size, 12, none⟩ (.slice ta3 (k + 1) tc3)).ownsRow (W1.heap.size + 1) 4 1 (.slice ta3 (k + 1) tc3) (k + 1) (((newTabs n).take (k + 1)).map Value.bool)) := by
          unfold Hid
          have h4 := own_off (i := 12) (v := .slice ta3 (k + 1) tc3) hown3 hA3 (by decide)
          rw [HNX.out, List.map_append, ← HBB.out, List.map_singleton]
          exact h4
        have HZB : Hid (Below w.heap.size w (W3.setCell ⟨W1.heap.size, 12, none⟩ (.slice ta3 (k + 1) tc3))) := hBB3.setCell hw1 _
        clear hA3 hB3 hR3 hBB3 kZ hown3 hgrow hnil c12
        go_wp2_with fail
        go_roundg (n - (k + 1))
        case measure => omega
        case rel => exact ⟨k + 1, _, by go_num, by omega, by omega, HZ1.out, HZ0.out, HZR.out, HZO.out, HZB.out⟩
      · have k1 : ¬ (0 : Int) < (k : Int) := by omega
        have HM : Hid (false = bb) := by
          unfold Hid
          rw [HBB.out]
          simp
          omega
        go_wp2_with (at_builtin; refine Hid.out ?_)
        unfold Hid
        refine wpList_append_own _ rfl _ _ 27 rfl (W1.heap.size + 1) 4 i0 (.bool false) 1 1 und_bools hi hz0 hz1 hz2 rfl (by decide) _ _ _ rfl (HO.out.alloc _) ⟨wr.heap.size, 0, none⟩ 1 1 [.bool false] rfl rfl (cell_one_new _ _ _) (by intro u hu; simp at hu; rw [hu]; rfl) (by unfold maxLen; omega) (by omega) (by simp; omega) ?_
        intro v3 W3 hown3 hgrow hnil
        obtain ⟨ta3, tc3, rfl⟩ := own_slice hown3
        have kZ : Below wr.heap.size wr (wr.alloc (.cells #[.bool false] 4)) := (Below.refl _ _).alloc (Nat.le_refl _) _
        have hfrom := Grd.own_from HO.out
        have hA3 : W3.heap[W1.heap.size]? = _ := (hgrow.block _ (by simp; omega) (fun e => by have := hfrom _ e.symm; omega)).trans (Grd.carry HY1.out kZ)
        have hB3 : W3.heap[w.heap.size]? = _ := (hgrow.block _ (by simp; omega) (fun e => by have := hfrom _ e.symm; omega)).trans (Grd.carry HY0.out kZ)
        have hR3 : Grd.RowB W3 g (.slice (some ⟨g, 0, none⟩) L.length cap) L := by
          obtain ⟨cap', rest', q0, q1, q2, q3⟩ := HRB.out
          exact ⟨cap', rest', q0, q1, q2, (hgrow.block _ (by have := heap_lt q3; simp; omega) (fun e => by have := hfrom _ e.symm; omega)).trans (Grd.carry q3 kZ)⟩
        have hBB3 : Below w.heap.size w W3 := (HB.out.alloc HB.out.size _).grown hgrow (by have := HB.out.size; simp; omega) (fun q hq => by have := hfrom q hq; omega)
        have f12 := (scr_cells hA3).2.2 12
        have d12 := (scr_cells hA3).2.1.2.1
        have HZ1 : Hid ((W3.setCell ⟨W1.heap.size, 12, none⟩ (.slice ta3 (k + 1) tc3)).heap[W1.heap.size]? = some (.cells (scrA (preScr (n : Int) (hh : Int) ((hh : Int) - 1)) (.slice (some ⟨g, 0, none⟩) L.length cap) (.slice ta3 (k + 1) tc3) (.slice none 0 0)) 32 (0, 0))) := store_at hA3 rfl
        have HZ0 : Hid ((W3.setCell ⟨W1.heap.size, 12, none⟩ (.slice ta3 (k + 1) tc3)).heap[w.heap.size]? = _) := (store_off (by omega)).trans hB3
        have HZR : Hid (Grd.RowB (W3.setCell ⟨W1.heap.size, 12, none⟩ (.slice ta3 (k + 1) tc3)) g (.slice (some ⟨g, 0, none⟩) L.length cap) L) := by
          obtain ⟨cap', rest', q0, q1, q2, q3⟩ := hR3
          exact ⟨cap', rest', q0, q1, q2, (store_off (by omega)).trans q3⟩
        have HZO : Hid ((W3.setCell ⟨W1.heap.size, 12, none⟩ (.slice ta3 (k + 1) tc3)).ownsRow (W1.heap.size + 1) 4 1 (.slice ta3 (k + 1) tc3) (k + 1) (((newTabs n).take (k + 1)).map Value.bool)) := by
          unfold Hid
          have h4 := own_off (i := 12) (v := .slice ta3 (k + 1) tc3) hown3 hA3 (by decide)
          rw [HNX.out, List.map_append, ← HBB.out, ← HM.out, List.map_singleton]
          exact h4
        have HZB : Hid (Below w.heap.size w (W3.setCell ⟨W1.heap.size, 12, none⟩ (.slice ta3 (k + 1) tc3))) := hBB3.setCell hw1 _
        clear hA3 hB3 hR3 hBB3 kZ hown3 hgrow hnil c12
        go_wp2_with fail
        go_roundg (n - (k + 1))
        case measure => omega
        case rel => exact ⟨k + 1, _, by go_num, by omega, by omega, HZ1.out, HZ0.out, HZR.out, HZO.out, HZB.out⟩
    · have lt1 : ¬ ((k : Int) < (n : Int)) := by omega
      have hkn : k = n := by omega
      subst hkn
      clear hy1
      go_wp2_with (first
        | (refine wpList_load_row rfl 32 (.tmp 5) rfl W1.heap.size rfl _ _ _ _ HY1.out Tryz.underlying32 rfl (by kernel_rfl) ?_)
        | (refine wpList_store_row rfl 32 (.tmp 4) _ rfl w.heap.size (scrA (preScr (k : Int) (hh : Int) ((hh : Int) - 1)) (.slice (some ⟨g, 0, none⟩) L.length cap) (.slice ta k tc) (.slice none 0 0)) rfl rfl _ _ HY0.out (by kernel_rfl) rfl (scr_one _ _ _ _ _ _ _ _ _ _) ?_))
      (try simp only [Exit.inBlock, Exit.then])
      have hO := HO.out
      rw [List.take_of_length_le (by rw [newTabs_len]; exact Nat.le_refl _)] at hO
      have hO2 := owns_kept (w' := wr.setRow w.heap.size (scrA (preScr (k : Int) (hh : Int) ((hh : Int) - 1)) (.slice (some ⟨g, 0, none⟩) L.length cap) (.slice ta k tc) (.slice none 0 0))) hO fun q hq => setRow_other _ _ _ _ (by have := (owns_block hO q hq).1; omega)
      refine bodyPost_ret (v := .agg (scrA (preScr (k : Int) (hh : Int) ((hh : Int) - 1)) (.slice (some ⟨g, 0, none⟩) L.length cap) (.slice ta k tc) (.slice none 0 0))) ?_ rfl ⟨.slice (some ⟨g, 0, none⟩) L.length cap, .slice ta k tc, .slice none 0 0, rfl, rfl, ?_, ?_, below_setRow HB.out (Nat.le_refl _) _⟩
      · exact results_cell_row rfl _ _ w.heap.size _ _ _ _ rfl (setRow_heap _ _ _ _ _ _ HY0.out) Tryz.underlying32 rfl (by kernel_rfl)
      · show Grd.OwnG _ _ _ (List.replicate (k * hh) (32, 0, 0, 0))
        rw [← HLL.out]
        obtain ⟨cap', rest', h0, h1, h2, h3⟩ := HRB.out
        exact ⟨g, cap', rest', ⟨_, rfl⟩, h0, by omega, h1, h2, (setRow_other _ _ _ _ (by omega)).trans h3⟩
      · show World.ownsRow _ _ _ _ _ (newTabs k).length _
        rw [newTabs_len]
        exact Grd.ownsRow_mono hO2 (by omega)
end
theorem newScreen_any (n hh : Nat) (w : World) (hs : isSize n hh = true) : Calls Tryz.prog 103 #[.int .i64 (n : Int), .int .i64 (hh : Int)] w fun e W' => ∃ cv' tv' gv', e = .returned (.agg (scrA (newScr n hh) cv' tv' gv')) ∧ ScrV W' (newScr n hh) cv' tv' gv' ∧ Below w.heap.size w W' := by
  refine (newScreen_own n hh w hs).mono ?_
  rintro e W' ⟨cv', tv', gv', rfl, rfl, h1, h2, h3⟩
  have hC : OwnC W' w.heap.size cv' (newScr n hh).cs := .inr h1
  exact ⟨_, _, _, rfl, ⟨hC.cells, own_boolsV h2, .inl ⟨rfl, none, 0, rfl⟩⟩, h3⟩
end Put
end Go.Proofs.YtnkeahfcpbepjaaGreatDoor

/- Act: reset. -/
namespace Go.Proofs.YtnkeahfcpbepjaaGreatDoor
open Go.ChangeShapes Go.WideShapes Go.ChangeAt Go.RowKit
namespace Put
open Grd (C SliceAt CellsAt gridErr z0 nilV rowsL RowsAt RowB flat)
theorem ownG_shape {W : World} {N : Nat} {v : Value} {cs : List C} (h : Grd.OwnG W N v cs) : ∃ a n c, v = .slice a n c := by
  obtain ⟨g, cap, rest, t, hv, -⟩ := h
  exact ⟨_, _, _, hv⟩
theorem new_off2 {W W' : World} {N R n hh : Nat} {cv tv : Value} (hO : Grd.OwnG W N cv (newScr n hh).cs) (hT : W.ownsRow N 4 1 tv (newScr n hh).tabs.length ((newScr n hh).tabs.map Value.bool)) (ho : ∀ k, k ≠ R → W'.heap[k]? = W.heap[k]?) (hR : R < N ∨ W.heap.size ≤ R) : Grd.OwnG W' N cv (newScr n hh).cs ∧ W'.ownsRow N 4 1 tv (newScr n hh).tabs.length ((newScr n hh).tabs.map Value.bool) := by
  have hne : ∀ g, N ≤ g → g < W.heap.size → W'.heap[g]? = W.heap[g]? := fun g h1 h2 => ho g (by omega)
  refine ⟨?_, owns_kept hT fun g hg => ?_⟩
  · obtain ⟨g, cap, rest, t, hv, h1, h2, h3, hg⟩ := hO
    exact ⟨g, cap, rest, t, hv, h1, h2, h3, (hne g h1 (heap_lt hg)).trans hg⟩
  · obtain ⟨h1, A, f, hA⟩ := owns_block hT g hg
    exact hne g h1 (heap_lt hA)
section
attribute [local go_sem ↓] store_scr
attribute [local go_sem] isScrS ptrBlk_at aggOf_agg
set_option maxHeartbeats 16000000 in
set_option maxRecDepth 100000 in
theorem act_reset (i j : Int) (s : Scr) (rows : List (List C)) (n hh : Nat) (hw : s.w = n) (hh' : s.h = hh) (hs : Grd.isSize n hh = true) (hgl : s.gone.length ≤ 50) : ActMakes ⟨#[114, 101, 115, 101, 116]⟩ i j s (resetS s n hh) rows (rowsL n (newScr n hh).cs hh) := by
  intro N W p hN hD
  have HNW : Hid (∀ V, Calls Tryz.prog 103 #[.int .i64 (n : Int), .int .i64 (hh : Int)] V fun e W' => ∃ cv' tv' gv', e = .returned (.agg (scrA (newScr n hh) cv' tv' gv')) ∧ gv' = .slice none 0 0 ∧ Grd.OwnG W' V.heap.size cv' (newScr n hh).cs ∧ W'.ownsRow V.heap.size 4 1 tv' (newScr n hh).tabs.length ((newScr n hh).tabs.map Value.bool) ∧ Below V.heap.size V W') := fun V => newScreen_own n hh V hs
  obtain ⟨ov, otv, ogv, orv, ogvs, ovs, ogs, hA⟩ := hD
  obtain ⟨ga, gc, rfl⟩ := hA.gone.slice
  have HA : Hid (DkA W N p s rows ov otv (.slice ga s.gone.length gc) orv ogvs ovs ogs) := hA
  have SK : Hid (∀ V, Below W.heap.size W V → V.cell? ⟨p, 0, none⟩ = some (.int .i64 (n : Int)) ∧ V.cell? ⟨p, 1, none⟩ = some (.int .i64 (hh : Int))) := fun V h => by
    have hblk := Grd.carry HA.out.blk h
    obtain ⟨⟨c0, c1, -⟩, -, -⟩ := sh_cells hblk
    rw [hw] at c0
    rw [hh'] at c1
    exact ⟨c0, c1⟩
  have HHS : Hid (Grd.isSize n hh = true) := hs
  have b0 : Below W.heap.size W W.drew := (Below.refl _ _).drew
  have bz : Below W.heap.size W (W.alloc (.cells #[.int .i64 0, .int .i64 0, .slice none 0 0, .int .i64 0, .int .i64 0, .bool false, .int .i64 0, .int .i64 0, .int .i64 0, .int .i64 0, .int .i64 0, .int .i64 0, .slice none 0 0, .int .i64 0, .int .i64 0, .int .i64 0, .int .i64 0, .int .i64 0, .int .i64 0, .int .i32 0, .string ⟨#[]⟩, .slice none 0 0] 32)) := (Below.refl _ _).alloc (Nat.le_refl _) _
  have b0a : Below W.heap.size W (W.alloc (.cells #[.int .i64 0, .int .i64 0, .slice none 0 0, .int .i64 0, .int .i64 0, .bool false, .int .i64 0, .int .i64 0, .int .i64 0, .int .i64 0, .int .i64 0, .int .i64 0, .slice none 0 0, .int .i64 0, .int .i64 0, .int .i64 0, .int .i64 0, .int .i64 0, .int .i64 0, .int .i32 0, .string ⟨#[]⟩, .slice none 0 0] 32)).drew := bz.drew
  have hzb : (W.alloc (.cells #[.int .i64 0, .int .i64 0, .slice none 0 0, .int .i64 0, .int .i64 0, .bool false, .int .i64 0, .int .i64 0, .int .i64 0, .int .i64 0, .int .i64 0, .int .i64 0, .slice none 0 0, .int .i64 0, .int .i64 0, .int .i64 0, .int .i64 0, .int .i64 0, .int .i64 0, .int .i32 0, .string ⟨#[]⟩, .slice none 0 0] 32)).drew.heap[W.heap.size]? = some (.cells #[.int .i64 0, .int .i64 0, .slice none 0 0, .int .i64 0, .int .i64 0, .bool false, .int .i64 0, .int .i64 0, .int .i64 0, .int .i64 0, .int .i64 0, .int .i64 0, .slice none 0 0, .int .i64 0, .int .i64 0, .int .i64 0, .int .i64 0, .int .i64 0, .int .i64 0, .int .i32 0, .string ⟨#[]⟩, .slice none 0 0] 32 (0, 0)) := heap_alloc_new W _
  have hzs : (W.alloc (.cells #[.int .i64 0, .int .i64 0, .slice none 0 0, .int .i64 0, .int .i64 0, .bool false, .int .i64 0, .int .i64 0, .int .i64 0, .int .i64 0, .int .i64 0, .int .i64 0, .slice none 0 0, .int .i64 0, .int .i64 0, .int .i64 0, .int .i64 0, .int .i64 0, .int .i64 0, .int .i32 0, .string ⟨#[]⟩, .slice none 0 0] 32)).drew.heap.size = W.heap.size + 1 := by simp [World.drew]
  have HHP : Hid (0 < n * hh) := by
    have hsz : 1 ≤ (n : Int) ∧ (n : Int) ≤ 120 ∧ 1 ≤ (hh : Int) ∧ (hh : Int) ≤ 60 := by simpa [Grd.isSize] using HHS.out
    exact Nat.mul_pos (by omega) (by omega)
  clear hA hs
  go_enter Tryz.func39, Tryz.ntmps39
  go_upto_region 125 with fail
  go_cut [25] from 930 to 942 (fun c wx => ∃ (B N' : Nat) (a1 a2 : Option Addr) (n1 n2 c1 c2' : Nat), c = .pointer (some ⟨B, 0, none⟩) ∧ W.heap.size ≤ B ∧ wx.heap[B]? = some (.cells (scrA (newScr n hh) (.slice a1 n1 c1) (.slice a2 n2 c2') (.slice none 0 0)) 32 (0, 0)) ∧ Grd.OwnG wx N' (.slice a1 n1 c1) (newScr n hh).cs ∧ wx.ownsRow N' 4 1 (.slice a2 n2 c2') (newScr n hh).tabs.length ((newScr n hh).tabs.map Value.bool) ∧ Below W.heap.size W wx)
  case first =>
    go_region_held3 (fun w' => w'.cell? ⟨p, 0, none⟩ = some (.int .i64 (n : Int)) ∧ w'.cell? ⟨p, 1, none⟩ = some (.int .i64 (hh : Int)))
      (first | exact K4.out | exact K3.out | exact SK.out _ q2 | exact SK.out _ b0a | exact SK.out _ bz | exact SK.out _ b0)
      (first | (go_at_call 103; refine (HNW.out _).mono ?_; rintro e V2 ⟨cv', tv', gv', rfl, rfl, hO, hTb, c2⟩; have q2 : Below W.heap.size W V2 := b0a.trans (c2.mono b0a.size); obtain ⟨a1, n1, c1, hcv⟩ := ownG_shape hO; subst hcv; obtain ⟨a2, c2', htv⟩ := own_slice hTb; generalize hn2 : (newScr n hh).tabs.length = n2 at htv; subst htv; have hbx := Grd.carry hzb c2; have sp := scrPtr0_of hbx rfl; have K3 : Hid (V2.cell? _ = _ ∧ V2.cell? _ = _) := SK.out _ q2; have K4 : Hid _ := SK.out _ (below_setRow q2 (Nat.le_refl _) (scrA (newScr n hh) (.slice a1 n1 c1) (.slice a2 n2 c2') (.slice none 0 0))); have HF2 : Hid _ := And.intro (setRow_heap _ _ _ (scrA (newScr n hh) (.slice a1 n1 c1) (.slice a2 n2 c2') (.slice none 0 0)) _ _ hbx) (And.intro (new_off2 (R := W.heap.size) hO hTb (fun k hk => setRow_other V2 W.heap.size k (scrA (newScr n hh) (.slice a1 n1 c1) (.slice a2 n2 c2') (.slice none 0 0)) hk) (.inl (by omega))) (below_setRow q2 (Nat.le_refl _) (scrA (newScr n hh) (.slice a1 n1 c1) (.slice a2 n2 c2') (.slice none 0 0)))); have HBL : Hid (W.heap.size ≤ W.heap.size) := Nat.le_refl _; clear hO hTb c2 hbx hn2) | (go_at_call 103; refine (HNW.out _).mono ?_; rintro e V2 ⟨cv', tv', gv', rfl, rfl, hO, hTb, c2⟩; have q2 : Below W.heap.size W V2 := b0.trans (c2.mono b0.size); obtain ⟨a1, n1, c1, hcv⟩ := ownG_shape hO; subst hcv; obtain ⟨a2, c2', htv⟩ := own_slice hTb; generalize hn2 : (newScr n hh).tabs.length = n2 at htv; subst htv; have sp := scrPtr0_of (heap_alloc_new V2 (.cells #[.int .i64 0, .int .i64 0, .slice none 0 0, .int .i64 0, .int .i64 0, .bool false, .int .i64 0, .int .i64 0, .int .i64 0, .int .i64 0, .int .i64 0, .int .i64 0, .slice none 0 0, .int .i64 0, .int .i64 0, .int .i64 0, .int .i64 0, .int .i64 0, .int .i64 0, .int .i32 0, .string ⟨#[]⟩, .slice none 0 0] 32)) rfl; have q3 := q2.alloc q2.size (.cells #[.int .i64 0, .int .i64 0, .slice none 0 0, .int .i64 0, .int .i64 0, .bool false, .int .i64 0, .int .i64 0, .int .i64 0, .int .i64 0, .int .i64 0, .int .i64 0, .slice none 0 0, .int .i64 0, .int .i64 0, .int .i64 0, .int .i64 0, .int .i64 0, .int .i64 0, .int .i32 0, .string ⟨#[]⟩, .slice none 0 0] 32); have K3 : Hid _ := SK.out _ q3; have K4 : Hid _ := SK.out _ (below_setRow q3 q2.size (scrA (newScr n hh) (.slice a1 n1 c1) (.slice a2 n2 c2') (.slice none 0 0))); have HF2 : Hid _ := And.intro (setRow_heap _ _ _ (scrA (newScr n hh) (.slice a1 n1 c1) (.slice a2 n2 c2') (.slice none 0 0)) _ _ (heap_alloc_new V2 (.cells #[.int .i64 0, .int .i64 0, .slice none 0 0, .int .i64 0, .int .i64 0, .bool false, .int .i64 0, .int .i64 0, .int .i64 0, .int .i64 0, .int .i64 0, .int .i64 0, .slice none 0 0, .int .i64 0, .int .i64 0, .int .i64 0, .int .i64 0, .int .i64 0, .int .i64 0, .int .i32 0, .string ⟨#[]⟩, .slice none 0 0] 32))) (And.intro (new_off2 (R := V2.heap.size) hO hTb (fun k hk => (setRow_other (V2.alloc (.cells #[.int .i64 0, .int .i64 0, .slice none 0 0, .int .i64 0, .int .i64 0, .bool false, .int .i64 0, .int .i64 0, .int .i64 0, .int .i64 0, .int .i64 0, .int .i64 0, .slice none 0 0, .int .i64 0, .int .i64 0, .int .i64 0, .int .i64 0, .int .i64 0, .int .i64 0, .int .i32 0, .string ⟨#[]⟩, .slice none 0 0] 32)) V2.heap.size k (scrA (newScr n hh) (.slice a1 n1 c1) (.slice a2 n2 c2') (.slice none 0 0)) hk).trans (alloc_other V2 (.cells #[.int .i64 0, .int .i64 0, .slice none 0 0, .int .i64 0, .int .i64 0, .bool false, .int .i64 0, .int .i64 0, .int .i64 0, .int .i64 0, .int .i64 0, .int .i64 0, .slice none 0 0, .int .i64 0, .int .i64 0, .int .i64 0, .int .i64 0, .int .i64 0, .int .i64 0, .int .i32 0, .string ⟨#[]⟩, .slice none 0 0] 32) k hk)) (.inr (Nat.le_refl _))) (below_setRow q3 q2.size (scrA (newScr n hh) (.slice a1 n1 c1) (.slice a2 n2 c2') (.slice none 0 0)))); have HBL : Hid (W.heap.size ≤ V2.heap.size) := q2.size; clear hO hTb c2 hn2))
    all_goals go_wp2_with fail
    all_goals go_meet
    all_goals exact ⟨_, _, a1, a2, n1, n2, c1, c2', rfl, HBL.out, HF2.out.1, HF2.out.2.1.1, HF2.out.2.1.2, HF2.out.2.2⟩
  case rest =>
    obtain ⟨B, N', a1, a2, n1, n2, c1, c2', rfl, hBW, hYB, hOG0, hsv0, hY⟩ := hcut
    have HY : Hid (Below W.heap.size W wc) := hY
    have HYB : Hid (wc.heap[B]? = _) := hYB
    have HOG : Hid _ := hOG0
    have HSV : Hid _ := hsv0
    clear hY hYB hOG0 hsv0 bz b0a b0 hzb hzs SK HNW
    generalize wc = Y at *
    have hpY := Grd.carry HA.out.blk HY.out
    obtain ⟨-, ⟨-, -, -, -, -, -, -, -, -, -, c21, -⟩, -⟩ := sh_cells hpY
    obtain ⟨-, ⟨-, -, -, -, -, -, -, -, -, -, d21⟩, dfz⟩ := scr_cells HYB.out
    have f21 := dfz 21
    have HZB : Hid ((Y.setCell ⟨B, 21, none⟩ (.slice ga s.gone.length gc)).heap[B]? = some (.cells (scrA (resetS s n hh) (.slice a1 n1 c1) (.slice a2 n2 c2') (.slice ga s.gone.length gc)) 32 (0, 0))) := store_at HYB.out rfl
    have hZ : Below W.heap.size W (Y.setCell ⟨B, 21, none⟩ (.slice ga s.gone.length gc)) := HY.out.setCell hBW _
    have hAZ := DkA.next HA.out hZ
    have hoff : ∀ k, k ≠ B → (Y.setCell ⟨B, 21, none⟩ (.slice ga s.gone.length gc)).heap[k]? = Y.heap[k]? := fun k hk => store_off hk
    have hsv := scrV_off (s := newScr n hh) HOG.out HSV.out HYB.out hoff
    have hgv := hAZ.gone
    have hgv0 : GoneV (Y.setCell ⟨B, 21, none⟩ (.slice ga s.gone.length gc)) 0 (.slice ga s.gone.length gc) s.gone.length ogvs := by
      obtain ⟨h0, h | ⟨g, o, cap, A, hv, h1, h2⟩⟩ := hgv
      · exact ⟨h0, .inl h⟩
      · exact ⟨h0, .inr ⟨g, o, cap, A, hv, Nat.zero_le _, h2⟩⟩
    have hFit : Fits (resetS s n hh) := by
      have hsz : 1 ≤ (n : Int) ∧ (n : Int) ≤ 120 ∧ 1 ≤ (hh : Int) ∧ (hh : Int) ≤ 60 := by simpa [Grd.isSize] using HHS.out
      refine ⟨by show (-9223372036854775808 : Int) ≤ 4; decide, by show (4 : Int) ≤ 9223372036854775807; decide, by show (-9223372036854775808 : Int) ≤ 4; decide, by show (4 : Int) ≤ 9223372036854775807; decide, by show (0 : Nat) ≤ 1048576; decide, ?_, ?_⟩
      · show s.gone.length ≤ 1048576
        omega
      · show (newTabs n).length ≤ 1048576
        have : (newTabs n).length = n := by simp [newTabs]
        omega
    have HTK := take_own N n hh (resetS s n hh) (.slice a1 n1 c1) (.slice a2 n2 c2') (.slice ga s.gone.length gc) ogvs _ (Y.setCell ⟨B, 21, none⟩ (.slice ga s.gone.length gc)) hgv0 hAZ.gin ⟨hsv.1, hsv.2, hgv.rowsV hAZ.gin.list⟩ (Below.refl _ _) hFit rfl rfl (new_gz n hh HHS.out)
    have HZW : Hid _ := hZ
    clear hAZ hsv hgv hgv0 hZ dfz hpY HYB HHS hoff hFit HOG HSV
    go_upto_region 127 with fail
    generalize (Y.setCell ⟨B, 21, none⟩ (.slice ga s.gone.length gc)) = U at *
    clear c21 d21 f21
    go_wp2_with (refine wpList_load_row rfl 32 (.tmp 25) rfl B rfl _ _ _ _ HZB.out Tryz.underlying32 rfl (by kernel_rfl) ?_)
    refine HTK.mono ?_
    rintro e V ⟨q, rfl, ⟨cv', tv', gv', rv', vs', gs', hQ⟩, b1⟩
    obtain ⟨z1, zn1, zc1, rfl⟩ := hQ.cvs
    obtain ⟨z2, zc2, rfl⟩ := own_slice hQ.tabs
    obtain ⟨z3, zc3, rfl⟩ := own_slice hQ.gone
    obtain ⟨z4, zc4, rfl⟩ := own_slice hQ.rws
    have hbV : Below W.heap.size W V := HZW.out.trans (b1.mono HZW.out.size)
    have HPV : Hid (V.heap[p]? = _) := Grd.carry HA.out.blk hbV
    have HQ : Hid _ := hQ
    have HQB : Hid (V.heap[q]? = _) := hQ.blk
    have HBV : Hid (Below W.heap.size W V) := hbV
    have HUS : Hid (W.heap.size ≤ U.heap.size) := HZW.out.size
    clear hQ b1 hbV HTK HZB HZW
    go_wp2_with (first
      | (refine wpList_load_row rfl 50 (.tmp 952) rfl q rfl _ _ _ _ HQB.out Tryz.underlying50 rfl (by kernel_rfl) ?_)
      | (refine wpList_store_row rfl 50 (.tmp 954) _ rfl p (shA (resetS s n hh) (.slice z1 zn1 zc1) (.slice z2 (resetS s n hh).tabs.length zc2) (.slice z3 (resetS s n hh).gone.length zc3) (.slice z4 (rowsL n (resetS s n hh).cs hh).length zc4)) rfl rfl _ _ HPV.out (by kernel_rfl) rfl (sh_one _ _ _ _ _ _ _ _ _ _ _ _ _) ?_))
    go_end0
    exact ⟨rfl, ⟨_, _, _, _, _, _, _, DkB.move HQ.out HPV.out (Nat.le_trans hN HUS.out) HA.out.lo (setRow_heap _ _ _ _ _ _ HPV.out) (fun k hk => setRow_other _ _ _ _ hk)⟩, below_setRow (HBV.out.mono hN) HA.out.lo _⟩
end
end Put
end Go.Proofs.YtnkeahfcpbepjaaGreatDoor
