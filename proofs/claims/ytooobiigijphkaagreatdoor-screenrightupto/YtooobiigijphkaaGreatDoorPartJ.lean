/- Parts of the proof, shortened by a program. -/
import Derived.Test.YtooobiigijphkaaGreatDoorPartI
import Derived.Test.YtooobiigijphkaaGreatDoorPartE
import Derived.Test.YtooobiigijphkaaGreatDoorPartG
import Derived.BigRegion
import Derived.Lib.SliceRun
import Derived.Test.YtooobiigijphkaaGreatDoorPartF
import Derived.Shelf.SlicesE.Delete
import Derived.Lib.OwnBridge
set_option maxHeartbeats 8000000
open Nat renaming le_refl → qd
open List renaming replicate → qe, getD → qy
open Go renaming heap_alloc_new → qf, setRow_other → qg, wpList_store_row → qh, below_setRow → qi, setRow_heap → qj, bodyPost_ret → qk, wpList_load_row → ql
open Go.RowKit.Below renaming refl → qr, heap_alloc → qs
open Go.Proofs.Tryz renaming prog → qP, underlying32 → qu
open Go.Exit renaming inBlock → qv, «then» → qw
namespace Go.Proofs.YtooobiigijphkaaGreatDoor
set_option linter.unusedVariables false
set_option linter.unusedSimpArgs false
set_option maxRecDepth 100000
open Go.ChangeShapes Go.WideShapes Go.ChangeAt Go.RowKit
namespace Put
open Grd (C)
theorem qjl (s s' : Scr) (cv tv gv : Value) (a : Int) (b : Int) (er : Int) (w0 w : World) (hV : Zh w0 s cv tv gv) (hM : w0.heap.size ≤ w.heap.size)
  (hC : ∀ (W : World) (B1 B2 : Nat),Below w.heap.size w W → W.cell? ⟨B1,0,none⟩ = some (.int .i64 a) → W.cell? ⟨B2,0,none⟩ = some (.int .i64 b) → Calls qP 125 #[.agg (scrA s cv tv gv),.func (.func 181) #[] #[.pointer (some ⟨B1,0,none⟩),.pointer (some ⟨B2,0,none⟩)]] W (Made w0 W s' er)) :
  Calls qP 129 #[.agg (scrA s cv tv gv),.int .i64 a,.int .i64 b] w (Made w0 w s' er) := by
 obtain ⟨ca,cc,rfl⟩ := hV.c.shape;obtain ⟨ta,tc,rfl⟩ := hV.t.slice;obtain ⟨ga,gc,rfl⟩ := hV.g.slice;have hkb : Below w.heap.size w ((((w.alloc (.cells (scS s ca cc ta tc ga gc) 32)).alloc (.cells #[.int .i64 a] 3)).alloc (.cells #[.int .i64 b] 3)).alloc (.cells zA 32)) := (((((qr _ _).alloc (by simp) _).alloc (by simp) _).alloc (by simp;omega) _).alloc (by simp;omega) _)
 have hx0 : (w.alloc (.cells (scS s ca cc ta tc ga gc) 32)).heap[w.heap.size]? = some (.cells (scS s ca cc ta tc ga gc) 32 (0,0)) := by
  have h := qf w (.cells (scS s ca cc ta tc ga gc) 32);have e : w.heap.size = w.heap.size := by simp
  rw [e] at h;exact h
 have hx0 := (qs (w.alloc (.cells (scS s ca cc ta tc ga gc) 32)) (.cells #[.int .i64 a] 3) _ (Qc hx0)).trans hx0;have hx0 := (qs ((w.alloc (.cells (scS s ca cc ta tc ga gc) 32)).alloc (.cells #[.int .i64 a] 3)) (.cells #[.int .i64 b] 3) _ (Qc hx0)).trans hx0;have hx0 := (qs (((w.alloc (.cells (scS s ca cc ta tc ga gc) 32)).alloc (.cells #[.int .i64 a] 3)).alloc (.cells #[.int .i64 b] 3)) (.cells zA 32) _ (Qc hx0)).trans hx0;have hx1 : ((w.alloc (.cells (scS s ca cc ta tc ga gc) 32)).alloc (.cells #[.int .i64 a] 3)).heap[w.heap.size + 1]? = some (.cells #[.int .i64 a] 3 (0,0)) := by
  have h := qf (w.alloc (.cells (scS s ca cc ta tc ga gc) 32)) (.cells #[.int .i64 a] 3);have e : (w.alloc (.cells (scS s ca cc ta tc ga gc) 32)).heap.size = w.heap.size + 1 := by simp
  rw [e] at h;exact h
 have hx1 := (qs ((w.alloc (.cells (scS s ca cc ta tc ga gc) 32)).alloc (.cells #[.int .i64 a] 3)) (.cells #[.int .i64 b] 3) _ (Qc hx1)).trans hx1;have hx1 := (qs (((w.alloc (.cells (scS s ca cc ta tc ga gc) 32)).alloc (.cells #[.int .i64 a] 3)).alloc (.cells #[.int .i64 b] 3)) (.cells zA 32) _ (Qc hx1)).trans hx1;have hx2 : (((w.alloc (.cells (scS s ca cc ta tc ga gc) 32)).alloc (.cells #[.int .i64 a] 3)).alloc (.cells #[.int .i64 b] 3)).heap[w.heap.size + 2]? = some (.cells #[.int .i64 b] 3 (0,0)) := by
  have h := qf ((w.alloc (.cells (scS s ca cc ta tc ga gc) 32)).alloc (.cells #[.int .i64 a] 3)) (.cells #[.int .i64 b] 3);have e : ((w.alloc (.cells (scS s ca cc ta tc ga gc) 32)).alloc (.cells #[.int .i64 a] 3)).heap.size = w.heap.size + 2 := by simp
  rw [e] at h;exact h
 have hx2 := (qs (((w.alloc (.cells (scS s ca cc ta tc ga gc) 32)).alloc (.cells #[.int .i64 a] 3)).alloc (.cells #[.int .i64 b] 3)) (.cells zA 32) _ (Qc hx2)).trans hx2;have hx3 : ((((w.alloc (.cells (scS s ca cc ta tc ga gc) 32)).alloc (.cells #[.int .i64 a] 3)).alloc (.cells #[.int .i64 b] 3)).alloc (.cells zA 32)).heap[w.heap.size + 3]? = some (.cells zA 32 (0,0)) := by
  have h := qf (((w.alloc (.cells (scS s ca cc ta tc ga gc) 32)).alloc (.cells #[.int .i64 a] 3)).alloc (.cells #[.int .i64 b] 3)) (.cells zA 32);have e : (((w.alloc (.cells (scS s ca cc ta tc ga gc) 32)).alloc (.cells #[.int .i64 a] 3)).alloc (.cells #[.int .i64 b] 3)).heap.size = w.heap.size + 3 := by simp
  rw [e] at h;exact h
 have HX0 : Hid _ := hx0;have HXR : Hid _ := hx3;have HKB : Hid _ := hkb;have HC := hC _ (w.heap.size + 1) (w.heap.size + 2) hkb (Ju hx1) (Ju hx2);have hsz : w.heap.size ≤ ((((w.alloc (.cells (scS s ca cc ta tc ga gc) 32)).alloc (.cells #[.int .i64 a] 3)).alloc (.cells #[.int .i64 b] 3)).alloc (.cells zA 32)).heap.size := hkb.size;clear hkb hV hC hx0 hx1 hx2 hx3;go_enter Tryz.func129,Tryz.ntmps129;go_upto_region 1 with fail
 generalize ((((w.alloc (.cells (scS s ca cc ta tc ga gc) 32)).alloc (.cells #[.int .i64 a] 3)).alloc (.cells #[.int .i64 b] 3)).alloc (.cells zA 32)) = X at *;go_wp2_with (refine ql rfl 32 (.tmp 3) rfl w.heap.size rfl _ _ _ _ HX0.out qu rfl (by kernel_rfl) ?_)
 refine HC.mono ?_;rintro e V ⟨cv',tv',gv',rfl,hO,c2⟩;obtain ⟨a1,n1,c1,a2,n2,c2',a3,n3,c3,rfl,rfl,rfl⟩ := hO.shapes;have HO : Hid (Qo V 0 _ s' _ _ _) := hO;have HR : Hid (V.heap[w.heap.size + 3]? = _) := Grd.carry HXR.out c2;have HB : Hid (Below w.heap.size w V) := HKB.out.trans (c2.mono HKB.out.size);clear hO c2 HC;go_wp2_with (refine qh rfl 32 (.tmp 6) (.tmp 11) rfl (w.heap.size + 3) (scT s' a1 n1 c1 a2 n2 c2' a3 n3 c3) rfl rfl _ _ HR.out (by kernel_rfl) rfl (Qm _ _ _ _ _ _ _ _ _ _) ?_)
 (try simp only [qv,qw])
 refine qk (v := .tuple #[.agg (scT s' a1 n1 c1 a2 n2 c2' a3 n3 c3),.int .i64 er]) ?_ rfl ⟨_,_,_,rfl,?_,qi HB.out (by omega) _⟩
 ·exact Grd.Qd rfl _ _ (w.heap.size + 3) _ _ _ _ rfl (qj _ _ _ _ _ _ HR.out) qu rfl (by kernel_rfl) _ rfl
 ·exact (Qo.off HO.out HR.out Ql (by omega) fun k hk => qg _ _ _ _ hk).mono hsz
theorem qki (s s' : Scr) (cv tv gv : Value) (er : Int) (w0 w : World) (hV : Zh w0 s cv tv gv) (hM : w0.heap.size ≤ w.heap.size)
  (hC : ∀ (W : World) (_B : Nat),Below w.heap.size w W → Calls qP 135 #[.agg (scrA s cv tv gv),.func (.func 136) #[] #[]] W (Made w0 W s' er)) :
  Calls qP 94 #[.agg (scrA s cv tv gv)] w (Made w0 w s' er) := by
 obtain ⟨ca,cc,rfl⟩ := hV.c.shape;obtain ⟨ta,tc,rfl⟩ := hV.t.slice;obtain ⟨ga,gc,rfl⟩ := hV.g.slice;have hkb : Below w.heap.size w ((w.alloc (.cells (scS s ca cc ta tc ga gc) 32)).alloc (.cells zA 32)) := (((qr _ _).alloc (by simp) _).alloc (by simp) _)
 have hx0 : (w.alloc (.cells (scS s ca cc ta tc ga gc) 32)).heap[w.heap.size]? = some (.cells (scS s ca cc ta tc ga gc) 32 (0,0)) := by
  have h := qf w (.cells (scS s ca cc ta tc ga gc) 32);have e : w.heap.size = w.heap.size := by simp
  rw [e] at h;exact h
 have hx0 := (qs (w.alloc (.cells (scS s ca cc ta tc ga gc) 32)) (.cells zA 32) _ (Qc hx0)).trans hx0;have hx1 : ((w.alloc (.cells (scS s ca cc ta tc ga gc) 32)).alloc (.cells zA 32)).heap[w.heap.size + 1]? = some (.cells zA 32 (0,0)) := by
  have h := qf (w.alloc (.cells (scS s ca cc ta tc ga gc) 32)) (.cells zA 32);have e : (w.alloc (.cells (scS s ca cc ta tc ga gc) 32)).heap.size = w.heap.size + 1 := by simp
  rw [e] at h;exact h
 have HX0 : Hid _ := hx0;have HXR : Hid _ := hx1;have HKB : Hid _ := hkb;have HC := hC _ 0 hkb;have hsz : w.heap.size ≤ ((w.alloc (.cells (scS s ca cc ta tc ga gc) 32)).alloc (.cells zA 32)).heap.size := hkb.size;clear hkb hV hC hx0 hx1;go_enter Tryz.func94,Tryz.ntmps94;go_upto_region 1 with fail
 generalize ((w.alloc (.cells (scS s ca cc ta tc ga gc) 32)).alloc (.cells zA 32)) = X at *;go_wp2_with (refine ql rfl 32 (.tmp 1) rfl w.heap.size rfl _ _ _ _ HX0.out qu rfl (by kernel_rfl) ?_)
 refine HC.mono ?_;rintro e V ⟨cv',tv',gv',rfl,hO,c2⟩;obtain ⟨a1,n1,c1,a2,n2,c2',a3,n3,c3,rfl,rfl,rfl⟩ := hO.shapes;have HO : Hid (Qo V 0 _ s' _ _ _) := hO;have HR : Hid (V.heap[w.heap.size + 1]? = _) := Grd.carry HXR.out c2;have HB : Hid (Below w.heap.size w V) := HKB.out.trans (c2.mono HKB.out.size);clear hO c2 HC;go_wp2_with (refine qh rfl 32 (.tmp 2) (.tmp 6) rfl (w.heap.size + 1) (scT s' a1 n1 c1 a2 n2 c2' a3 n3 c3) rfl rfl _ _ HR.out (by kernel_rfl) rfl (Qm _ _ _ _ _ _ _ _ _ _) ?_)
 (try simp only [qv,qw])
 refine qk (v := .tuple #[.agg (scT s' a1 n1 c1 a2 n2 c2' a3 n3 c3),.int .i64 er]) ?_ rfl ⟨_,_,_,rfl,?_,qi HB.out (by omega) _⟩
 ·exact Grd.Qd rfl _ _ (w.heap.size + 1) _ _ _ _ rfl (qj _ _ _ _ _ _ HR.out) qu rfl (by kernel_rfl) _ rfl
 ·exact (Qo.off HO.out HR.out Ql (by omega) fun k hk => qg _ _ _ _ hk).mono hsz
theorem qhl (s s' : Scr) (cv tv gv : Value) (n : Int) (er : Int) (w0 w : World) (hV : Zh w0 s cv tv gv) (hM : w0.heap.size ≤ w.heap.size)
  (hC : ∀ (W : World) (B1 : Nat),Below w.heap.size w W → W.cell? ⟨B1,0,none⟩ = some (.int .i64 n) → Calls qP 135 #[.agg (scrA s cv tv gv),.func (.func 211) #[] #[.pointer (some ⟨B1,0,none⟩)]] W (Made w0 W s' er)) :
  Calls qP 160 #[.agg (scrA s cv tv gv),.int .i64 n] w (Made w0 w s' er) := by
 obtain ⟨ca,cc,rfl⟩ := hV.c.shape;obtain ⟨ta,tc,rfl⟩ := hV.t.slice;obtain ⟨ga,gc,rfl⟩ := hV.g.slice;have hkb : Below w.heap.size w (((w.alloc (.cells (scS s ca cc ta tc ga gc) 32)).alloc (.cells #[.int .i64 n] 3)).alloc (.cells zA 32)) := ((((qr _ _).alloc (by simp) _).alloc (by simp) _).alloc (by simp;omega) _)
 have hx0 : (w.alloc (.cells (scS s ca cc ta tc ga gc) 32)).heap[w.heap.size]? = some (.cells (scS s ca cc ta tc ga gc) 32 (0,0)) := by
  have h := qf w (.cells (scS s ca cc ta tc ga gc) 32);have e : w.heap.size = w.heap.size := by simp
  rw [e] at h;exact h
 have hx0 := (qs (w.alloc (.cells (scS s ca cc ta tc ga gc) 32)) (.cells #[.int .i64 n] 3) _ (Qc hx0)).trans hx0;have hx0 := (qs ((w.alloc (.cells (scS s ca cc ta tc ga gc) 32)).alloc (.cells #[.int .i64 n] 3)) (.cells zA 32) _ (Qc hx0)).trans hx0;have hx1 : ((w.alloc (.cells (scS s ca cc ta tc ga gc) 32)).alloc (.cells #[.int .i64 n] 3)).heap[w.heap.size + 1]? = some (.cells #[.int .i64 n] 3 (0,0)) := by
  have h := qf (w.alloc (.cells (scS s ca cc ta tc ga gc) 32)) (.cells #[.int .i64 n] 3);have e : (w.alloc (.cells (scS s ca cc ta tc ga gc) 32)).heap.size = w.heap.size + 1 := by simp
  rw [e] at h;exact h
 have hx1 := (qs ((w.alloc (.cells (scS s ca cc ta tc ga gc) 32)).alloc (.cells #[.int .i64 n] 3)) (.cells zA 32) _ (Qc hx1)).trans hx1;have hx2 : (((w.alloc (.cells (scS s ca cc ta tc ga gc) 32)).alloc (.cells #[.int .i64 n] 3)).alloc (.cells zA 32)).heap[w.heap.size + 2]? = some (.cells zA 32 (0,0)) := by
  have h := qf ((w.alloc (.cells (scS s ca cc ta tc ga gc) 32)).alloc (.cells #[.int .i64 n] 3)) (.cells zA 32);have e : ((w.alloc (.cells (scS s ca cc ta tc ga gc) 32)).alloc (.cells #[.int .i64 n] 3)).heap.size = w.heap.size + 2 := by simp
  rw [e] at h;exact h
 have HX0 : Hid _ := hx0;have HXR : Hid _ := hx2;have HKB : Hid _ := hkb;have HC := hC _ (w.heap.size + 1) hkb (Ju hx1);have hsz : w.heap.size ≤ (((w.alloc (.cells (scS s ca cc ta tc ga gc) 32)).alloc (.cells #[.int .i64 n] 3)).alloc (.cells zA 32)).heap.size := hkb.size;clear hkb hV hC hx0 hx1 hx2;go_enter Tryz.func160,Tryz.ntmps160;go_upto_region 1 with fail
 generalize (((w.alloc (.cells (scS s ca cc ta tc ga gc) 32)).alloc (.cells #[.int .i64 n] 3)).alloc (.cells zA 32)) = X at *;go_wp2_with (refine ql rfl 32 (.tmp 2) rfl w.heap.size rfl _ _ _ _ HX0.out qu rfl (by kernel_rfl) ?_)
 refine HC.mono ?_;rintro e V ⟨cv',tv',gv',rfl,hO,c2⟩;obtain ⟨a1,n1,c1,a2,n2,c2',a3,n3,c3,rfl,rfl,rfl⟩ := hO.shapes;have HO : Hid (Qo V 0 _ s' _ _ _) := hO;have HR : Hid (V.heap[w.heap.size + 2]? = _) := Grd.carry HXR.out c2;have HB : Hid (Below w.heap.size w V) := HKB.out.trans (c2.mono HKB.out.size);clear hO c2 HC;go_wp2_with (refine qh rfl 32 (.tmp 4) (.tmp 9) rfl (w.heap.size + 2) (scT s' a1 n1 c1 a2 n2 c2' a3 n3 c3) rfl rfl _ _ HR.out (by kernel_rfl) rfl (Qm _ _ _ _ _ _ _ _ _ _) ?_)
 (try simp only [qv,qw])
 refine qk (v := .tuple #[.agg (scT s' a1 n1 c1 a2 n2 c2' a3 n3 c3),.int .i64 er]) ?_ rfl ⟨_,_,_,rfl,?_,qi HB.out (by omega) _⟩
 ·exact Grd.Qd rfl _ _ (w.heap.size + 2) _ _ _ _ rfl (qj _ _ _ _ _ _ HR.out) qu rfl (by kernel_rfl) _ rfl
 ·exact (Qo.off HO.out HR.out Ql (by omega) fun k hk => qg _ _ _ _ hk).mono hsz
theorem qus (s s' : Scr) (cv tv gv : Value) (n : Int) (er : Int) (w0 w : World) (hV : Zh w0 s cv tv gv) (hM : w0.heap.size ≤ w.heap.size)
  (hC : ∀ W,Below w.heap.size w W → Calls qP 129 #[.agg (scrA s cv tv gv),.int .i64 n,.int .i64 1] W (Made w0 W s' er)) :
  Calls qP 89 #[.agg (scrA s cv tv gv),.int .i64 n] w (Made w0 w s' er) := by
 obtain ⟨ca,cc,rfl⟩ := hV.c.shape;obtain ⟨ta,tc,rfl⟩ := hV.t.slice;obtain ⟨ga,gc,rfl⟩ := hV.g.slice;have hkb : Below w.heap.size w ((w.alloc (.cells (scS s ca cc ta tc ga gc) 32)).alloc (.cells zA 32)) := (((qr _ _).alloc (by simp) _).alloc (by simp) _)
 have hx0 : (w.alloc (.cells (scS s ca cc ta tc ga gc) 32)).heap[w.heap.size]? = some (.cells (scS s ca cc ta tc ga gc) 32 (0,0)) := by
  have h := qf w (.cells (scS s ca cc ta tc ga gc) 32);have e : w.heap.size = w.heap.size := by simp
  rw [e] at h;exact h
 have hx0 := (qs (w.alloc (.cells (scS s ca cc ta tc ga gc) 32)) (.cells zA 32) _ (Qc hx0)).trans hx0;have hx1 : ((w.alloc (.cells (scS s ca cc ta tc ga gc) 32)).alloc (.cells zA 32)).heap[w.heap.size + 1]? = some (.cells zA 32 (0,0)) := by
  have h := qf (w.alloc (.cells (scS s ca cc ta tc ga gc) 32)) (.cells zA 32);have e : (w.alloc (.cells (scS s ca cc ta tc ga gc) 32)).heap.size = w.heap.size + 1 := by simp
  rw [e] at h;exact h
 have HX0 : Hid _ := hx0;have HXR : Hid _ := hx1;have HKB : Hid _ := hkb;have HC := hC _ hkb;have hsz : w.heap.size ≤ ((w.alloc (.cells (scS s ca cc ta tc ga gc) 32)).alloc (.cells zA 32)).heap.size := hkb.size;clear hkb hV hC hx0 hx1;go_enter Tryz.func89,Tryz.ntmps89;go_upto_region 1 with fail
 generalize ((w.alloc (.cells (scS s ca cc ta tc ga gc) 32)).alloc (.cells zA 32)) = X at *;go_wp2_with (refine ql rfl 32 (.tmp 2) rfl w.heap.size rfl _ _ _ _ HX0.out qu rfl (by kernel_rfl) ?_)
 refine HC.mono ?_;rintro e V ⟨cv',tv',gv',rfl,hO,c2⟩;obtain ⟨a1,n1,c1,a2,n2,c2',a3,n3,c3,rfl,rfl,rfl⟩ := hO.shapes;have HO : Hid (Qo V 0 _ s' _ _ _) := hO;have HR : Hid (V.heap[w.heap.size + 1]? = _) := Grd.carry HXR.out c2;have HB : Hid (Below w.heap.size w V) := HKB.out.trans (c2.mono HKB.out.size);clear hO c2 HC;go_wp2_with (refine qh rfl 32 (.tmp 4) (.tmp 9) rfl (w.heap.size + 1) (scT s' a1 n1 c1 a2 n2 c2' a3 n3 c3) rfl rfl _ _ HR.out (by kernel_rfl) rfl (Qm _ _ _ _ _ _ _ _ _ _) ?_)
 (try simp only [qv,qw])
 refine qk (v := .tuple #[.agg (scT s' a1 n1 c1 a2 n2 c2' a3 n3 c3),.int .i64 er]) ?_ rfl ⟨_,_,_,rfl,?_,qi HB.out (by omega) _⟩
 ·exact Grd.Qd rfl _ _ (w.heap.size + 1) _ _ _ _ rfl (qj _ _ _ _ _ _ HR.out) qu rfl (by kernel_rfl) _ rfl
 ·exact (Qo.off HO.out HR.out Ql (by omega) fun k hk => qg _ _ _ _ hk).mono hsz
theorem qhx (s s' : Scr) (cv tv gv : Value) (n : Int) (er : Int) (w0 w : World) (hV : Zh w0 s cv tv gv) (hM : w0.heap.size ≤ w.heap.size)
  (hC : ∀ W,Below w.heap.size w W → Calls qP 129 #[.agg (scrA s cv tv gv),.int .i64 n,.int .i64 (-1)] W (Made w0 W s' er)) :
  Calls qP 155 #[.agg (scrA s cv tv gv),.int .i64 n] w (Made w0 w s' er) := by
 obtain ⟨ca,cc,rfl⟩ := hV.c.shape;obtain ⟨ta,tc,rfl⟩ := hV.t.slice;obtain ⟨ga,gc,rfl⟩ := hV.g.slice;have hkb : Below w.heap.size w ((w.alloc (.cells (scS s ca cc ta tc ga gc) 32)).alloc (.cells zA 32)) := (((qr _ _).alloc (by simp) _).alloc (by simp) _)
 have hx0 : (w.alloc (.cells (scS s ca cc ta tc ga gc) 32)).heap[w.heap.size]? = some (.cells (scS s ca cc ta tc ga gc) 32 (0,0)) := by
  have h := qf w (.cells (scS s ca cc ta tc ga gc) 32);have e : w.heap.size = w.heap.size := by simp
  rw [e] at h;exact h
 have hx0 := (qs (w.alloc (.cells (scS s ca cc ta tc ga gc) 32)) (.cells zA 32) _ (Qc hx0)).trans hx0;have hx1 : ((w.alloc (.cells (scS s ca cc ta tc ga gc) 32)).alloc (.cells zA 32)).heap[w.heap.size + 1]? = some (.cells zA 32 (0,0)) := by
  have h := qf (w.alloc (.cells (scS s ca cc ta tc ga gc) 32)) (.cells zA 32);have e : (w.alloc (.cells (scS s ca cc ta tc ga gc) 32)).heap.size = w.heap.size + 1 := by simp
  rw [e] at h;exact h
 have HX0 : Hid _ := hx0;have HXR : Hid _ := hx1;have HKB : Hid _ := hkb;have HC := hC _ hkb;have hsz : w.heap.size ≤ ((w.alloc (.cells (scS s ca cc ta tc ga gc) 32)).alloc (.cells zA 32)).heap.size := hkb.size;clear hkb hV hC hx0 hx1;go_enter Tryz.func155,Tryz.ntmps155;go_upto_region 1 with fail
 generalize ((w.alloc (.cells (scS s ca cc ta tc ga gc) 32)).alloc (.cells zA 32)) = X at *;go_wp2_with (refine ql rfl 32 (.tmp 2) rfl w.heap.size rfl _ _ _ _ HX0.out qu rfl (by kernel_rfl) ?_)
 refine HC.mono ?_;rintro e V ⟨cv',tv',gv',rfl,hO,c2⟩;obtain ⟨a1,n1,c1,a2,n2,c2',a3,n3,c3,rfl,rfl,rfl⟩ := hO.shapes;have HO : Hid (Qo V 0 _ s' _ _ _) := hO;have HR : Hid (V.heap[w.heap.size + 1]? = _) := Grd.carry HXR.out c2;have HB : Hid (Below w.heap.size w V) := HKB.out.trans (c2.mono HKB.out.size);clear hO c2 HC;go_wp2_with (refine qh rfl 32 (.tmp 4) (.tmp 9) rfl (w.heap.size + 1) (scT s' a1 n1 c1 a2 n2 c2' a3 n3 c3) rfl rfl _ _ HR.out (by kernel_rfl) rfl (Qm _ _ _ _ _ _ _ _ _ _) ?_)
 (try simp only [qv,qw])
 refine qk (v := .tuple #[.agg (scT s' a1 n1 c1 a2 n2 c2' a3 n3 c3),.int .i64 er]) ?_ rfl ⟨_,_,_,rfl,?_,qi HB.out (by omega) _⟩
 ·exact Grd.Qd rfl _ _ (w.heap.size + 1) _ _ _ _ rfl (qj _ _ _ _ _ _ HR.out) qu rfl (by kernel_rfl) _ rfl
 ·exact (Qo.off HO.out HR.out Ql (by omega) fun k hk => qg _ _ _ _ hk).mono hsz
end Put
namespace Put
def nR (tabs : List Bool) (n : Nat) : Nat → Nat
 | 0 => n - 1
 | d + 1 => if tabs.getD (n - 1 - d) false then n - 1 - d else nR tabs n d
def Jn (tabs : List Bool) (n x : Nat) : Nat := nR tabs n (n - 1 - x)
def Kw (tabs : List Bool) : Nat → Nat
 | 0 => 0
 | x + 1 => if tabs.getD x false then x else Kw tabs x
theorem qoz (tabs : List Bool) (n x : Nat) (h : n ≤ x + 1) : Jn tabs n x = n - 1 := by
 unfold Jn;rw [show n - 1 - x = 0 by omega]
 rfl
theorem qg5 (tabs : List Bool) (n x : Nat) (h : x + 1 < n) : Jn tabs n x = if tabs.getD (x + 1) false then x + 1 else Jn tabs n (x + 1) := by
 unfold Jn;rw [show n - 1 - x = (n - 1 - (x + 1)) + 1 by omega]
 show (if tabs.getD (n - 1 - (n - 1 - (x + 1))) false then n - 1 - (n - 1 - (x + 1)) else _) = _
 rw [show n - 1 - (n - 1 - (x + 1)) = x + 1 by omega]
theorem qgu (tabs : List Bool) (n : Nat) : ∀ d, d ≤ n - 1 → n - d ≤ nR tabs n d + 1 ∧ nR tabs n d ≤ n - 1
 | 0,_ => by
  show n - 0 ≤ n - 1 + 1 ∧ n - 1 ≤ n - 1
  omega
 | d + 1,h => by
  have ih := qgu tabs n d (by omega)
  show n - (d + 1) ≤ (if tabs.getD (n - 1 - d) false then n - 1 - d else nR tabs n d) + 1 ∧ (if tabs.getD (n - 1 - d) false then n - 1 - d else nR tabs n d) ≤ n - 1
  split <;> omega
theorem qnm (tabs : List Bool) (n x : Nat) (hx : x < n) : x ≤ Jn tabs n x ∧ Jn tabs n x ≤ n - 1 ∧ (x + 1 < n → x < Jn tabs n x) := by
 have h := qgu tabs n (n - 1 - x) (by omega)
 have h2 : nR tabs n (n - 1 - x) = Jn tabs n x := rfl;rw [h2] at h;refine ⟨by omega,h.2,fun h1 => ?_⟩
 rw [qg5 tabs n x h1];split
 ·omega
 ·have h3 := qgu tabs n (n - 1 - (x + 1)) (by omega)
  have h4 : nR tabs n (n - 1 - (x + 1)) = Jn tabs n (x + 1) := rfl;rw [h4] at h3;omega
theorem qel (tabs : List Bool) : ∀ x, Kw tabs x ≤ x - 1
 | 0 => qd _
 | x + 1 => by
  have ih := qel tabs x
  show (if tabs.getD x false then x else Kw tabs x) ≤ _
  split <;> omega
def Xc (f : Nat → Nat) : Nat → Nat → Nat
 | 0,x => x
 | k + 1,x => f (Xc f k x)
theorem qyd (tabs : List Bool) (n x : Nat) (hx : x < n) : ∀ k, Xc (Jn tabs n) k x < n ∧ min (x + k) (n - 1) ≤ Xc (Jn tabs n) k x
 | 0 => ⟨hx,by show _ ≤ x;omega⟩
 | k + 1 => by
  obtain ⟨h1,h2⟩ := qyd tabs n x hx k;have h3 := qnm tabs n _ h1
  show Jn tabs n (Xc (Jn tabs n) k x) < n ∧ _ ≤ Jn tabs n (Xc (Jn tabs n) k x)
  refine ⟨by omega,?_⟩
  by_cases h4 : Xc (Jn tabs n) k x + 1 < n
  ·have := h3.2.2 h4
   omega
  ·omega
theorem qvu (tabs : List Bool) (n x : Nat) (hx : x < n) : ∀ k, Xc (Kw tabs) k x ≤ x - k
 | 0 => qd _
 | k + 1 => by
  have h := qvu tabs n x hx k;have h2 := qel tabs (Xc (Kw tabs) k x)
  show Kw tabs (Xc (Kw tabs) k x) ≤ _
  omega
end Put
namespace Put
open Grd (C SliceAt Qb Qf z0 Q0)
theorem qaq {W : World} {N : Nat} {tv : Value} {l : List Bool} (h : W.ownsRow N 4 1 tv l.length (l.map Value.bool)) (hn : 0 < l.length) : ∃ g c,tv = .slice (some ⟨g,0,none⟩) l.length c ∧ N ≤ g ∧ l.length ≤ c ∧ c ≤ 9223372036854775807 ∧ (∀ j,j < l.length → W.cell? ⟨g,j,none⟩ = some (.bool (l.getD j false))) ∧ ∃ A,W.heap[g]? = some (.cells A 4 (0,0)) := by
 obtain ⟨h0,⟨-,hz⟩ | ⟨g,cap,cur,hv,hg,hh,hc,hm,hs,htk⟩⟩ := h
 ·omega
 ·refine ⟨g, cap, hv, hg, hc, by unfold maxLen at hm; omega, fun j hj => ?_, cur, hh⟩
  have e : cur[j]? = (l.map Value.bool)[j]? := by
   rw [← htk,← Array.getElem?_toList,List.getElem?_take_of_lt (by omega)]
  unfold World.cell?;simp only [hh];rw [e,List.getElem?_map,List.getElem?_eq_getElem hj];simp [qy,hj]
theorem qv2 {M N p : Nat} {s : Scr} {rows : List (List C)} (n x : Nat) (W : World) (hS : ShAt 110 W M N p s rows) (hw : s.w = n) (hx : s.x = x) (hxn : x < n) (hn : n ≤ 120) (htl : s.tabs.length = n) :
  Calls qP 182 #[.pointer (some ⟨p,0,none⟩),.int .i64 1] W fun e w' => e = .returned (.int .i64 (Jn s.tabs n x : Nat)) ∧ W = w' := by
 obtain ⟨cv,tv,gv,rv,gvs,vs,hA⟩ := hS;obtain ⟨g,tc,rfl,-,h1,h2,hcell,-⟩ := qaq hA.tabs (by omega)
 obtain ⟨⟨c0,-,-,c3,-⟩,⟨-,c12,-⟩,-⟩ := Qr hA.blk;rw [htl] at c12 h1 hcell;rw [hw] at c0;rw [hx] at c3;have HC : Hid (∀ j,j < n → W.cell? ⟨g,j,none⟩ = some (.bool (s.tabs.getD j false))) := hcell;clear hA hcell hw hx htl;generalize s.tabs = tabs at *;go_enter Tryz.func182,Tryz.ntmps182;go_wp2_with fail;go_loopg [5] n (fun q v wr => ∃ j : Nat,v = .int .i64 (j : Int) ∧ j < n ∧ n - j ≤ q ∧ Jn tabs n j = Jn tabs n x ∧ wr = W)
 case atStart => exact ⟨x,rfl,hxn,by omega,rfl,rfl⟩
 case round =>
  obtain ⟨j,rfl,hj,hq,he,rfl⟩ := hrel;have HE : Hid (Jn tabs n j = Jn tabs n x) := he;clear he
  by_cases hlt : j + 1 < n
  ·have l1 : (0 : Int) ≤ (j : Int) + 1 := by omega
   have l2 : (j : Int) + 1 < (n : Int) := by omega
   have d := HC.out (j + 1) hlt;have hst := qg5 tabs n j hlt;have HST : Hid (Jn tabs n j = if tabs.getD (j + 1) false then j + 1 else Jn tabs n (j + 1)) := hst
   clear hst
   cases hb : tabs.getD (j + 1) false with
   | true =>
    rw [hb] at d;go_wp2_with fail;go_ret;refine ⟨?_,rfl⟩;rw [← HE.out,HST.out,hb]
    rfl
   | false =>
    rw [hb] at d;go_wp2_with fail;go_roundg (n - (j + 1))
    case measure => omega
    case rel => exact ⟨j + 1,by go_num,hlt,by omega,by rw [← HE.out,HST.out,hb];rfl,rfl⟩
  ·have l1 : (0 : Int) ≤ (j : Int) + 1 := by omega
   have l2 : ¬ (j : Int) + 1 < (n : Int) := by omega
   go_wp2_with fail;go_ret;refine ⟨?_,rfl⟩;rw [← HE.out,qoz tabs n j (by omega),show n - 1 = j by omega]
   rfl
theorem qyh {M N p : Nat} {s : Scr} {rows : List (List C)} (n x : Nat) (W : World) (hS : ShAt 110 W M N p s rows) (hw : s.w = n) (hx : s.x = x) (hxn : x < n) (hn : n ≤ 120) (htl : s.tabs.length = n) :
  Calls qP 182 #[.pointer (some ⟨p,0,none⟩),.int .i64 (-1)] W fun e w' => e = .returned (.int .i64 (Kw s.tabs x : Nat)) ∧ W = w' := by
 obtain ⟨cv,tv,gv,rv,gvs,vs,hA⟩ := hS;obtain ⟨g,tc,rfl,-,h1,h2,hcell,-⟩ := qaq hA.tabs (by omega)
 obtain ⟨⟨c0,-,-,c3,-⟩,⟨-,c12,-⟩,-⟩ := Qr hA.blk;rw [htl] at c12 h1 hcell;rw [hw] at c0;rw [hx] at c3;have HC : Hid (∀ j,j < n → W.cell? ⟨g,j,none⟩ = some (.bool (s.tabs.getD j false))) := hcell;clear hA hcell hw hx htl;generalize s.tabs = tabs at *;go_enter Tryz.func182,Tryz.ntmps182;go_wp2_with fail;go_loopg [5] n (fun q v wr => ∃ j : Nat,v = .int .i64 (j : Int) ∧ j < n ∧ j ≤ q ∧ Kw tabs j = Kw tabs x ∧ wr = W)
 case atStart => exact ⟨x,rfl,hxn,by omega,rfl,rfl⟩
 case round =>
  obtain ⟨j,rfl,hj,hq,he,rfl⟩ := hrel;have HE : Hid (Kw tabs j = Kw tabs x) := he;clear he
  cases j with
  | zero =>
   have l1 : ¬ (0 : Int) ≤ ((0 : Nat) : Int) + -1 := by omega
   go_wp2_with fail;go_ret;refine ⟨?_,rfl⟩;rw [← HE.out]
   rfl
  | succ j =>
   have l0 : (j : Int) + 1 + -1 = (j : Int) := by omega
   have l1 : (0 : Int) ≤ (j : Int) := by omega
   have l2 : (j : Int) < (n : Int) := by omega
   have hwr : IntKind.i64.wrap ((j : Int) + 1 + -1) = (j : Int) := by rw [l0];exact Zl _ (by omega) (by omega)
   have d := HC.out j (by omega)
   have HST : Hid (Kw tabs (j + 1) = if tabs.getD j false then j else Kw tabs j) := rfl
   cases hb : tabs.getD j false with
   | true =>
    rw [hb] at d;go_wp2_with fail;go_ret;refine ⟨?_,rfl⟩;rw [← HE.out,HST.out,hb]
    rfl
   | false =>
    rw [hb] at d;go_wp2_with fail;go_roundg j
    case measure => omega
    case rel => exact ⟨j,by go_num,by omega,by omega,by rw [← HE.out,HST.out,hb];rfl,rfl⟩
theorem qzh {W : World} {N g c : Nat} {l : List Bool} (h : W.ownsRow N 4 1 (.slice (some ⟨g,0,none⟩) l.length c) l.length (l.map Value.bool)) (k : Nat) (b : Bool) : (W.setCell ⟨g,k,none⟩ (.bool b)).ownsRow N 4 1 (.slice (some ⟨g,0,none⟩) l.length c) (l.set k b).length ((l.set k b).map Value.bool) := by
 have h1 := qb5 (k := k) (v := .bool b) h;rw [List.length_set,List.map_set];exact h1
theorem ShA.tab {t : TypeId} (ht : X6 t) {W : World} {M N p : Nat} {s : Scr} {rows : List (List C)} {cv gv rv : Value} {gvs vs : List Value} {g c : Nat} (h : ShA t W M N p s rows cv (.slice (some ⟨g, 0, none⟩) s.tabs.length c) gv rv gvs vs) (hn : 0 < s.tabs.length) (k : Nat) (b : Bool) :
  ShA t (W.setCell ⟨g,k,none⟩ (.bool b)) M N p { s with tabs := s.tabs.set k b } rows cv (.slice (some ⟨g,0,none⟩) s.tabs.length c) gv rv gvs vs := by
 obtain ⟨g',c',hv,hg,-,-,-,A,hA⟩ := qaq h.tabs hn;injection hv with hv1 _ hv3
 injection hv1 with hv1
 injection hv1 with hv1
 subst hv1;have hne : p ≠ g := fun e => by
  have hb := h.blk;rw [e,hA] at hb;injection hb with hb
  injection hb with _ hb _
  exact ht.1 hb.symm
 have hk : Kept M W (W.setCell ⟨g,k,none⟩ (.bool b)) := Kept.store hA (by decide) (Nat.le_trans h.ml hg)
 exact ⟨(Zf hne).trans h.blk,h.lo,h.ml,h.cvs,qzh h.tabs k b,Z5 h.gone hA (by decide),h.gin.keep hk,Z5 h.rws hA (by decide),h.rin.keep hk,h.two⟩
def Fv : Nat → List Bool → Nat → List Bool
 | 0,l,_ => l
 | m + 1,l,o => Fv m (l.set o false) (o + 1)
theorem qez : ∀ m l o, (Fv m l o).length = l.length
 | 0,_,_ => rfl
 | m + 1,l,o => by
  show (Fv m (l.set o false) (o + 1)).length = _
  rw [qez m,List.length_set]
theorem qek : ∀ m (l : List Bool) o i, i < l.length → (Fv m l o).getD i false = if o ≤ i ∧ i < o + m then false else l.getD i false
 | 0,l,o,i,_ => by
  rw [if_neg (by omega)]
  rfl
 | m + 1,l,o,i,hi => by
  show (Fv m (l.set o false) (o + 1)).getD i false = _
  rw [qek m _ _ i (by rw [List.length_set];exact hi)]
  by_cases e : i = o
  ·subst e
   rw [if_neg (by omega),if_pos (by omega),J4 _ _ _ _ hi]
  ·rw [getD_set_ne _ _ _ _ _ e]
   by_cases h1 : o + 1 ≤ i ∧ i < o + 1 + m
   ·rw [if_pos h1,if_pos (by omega)]
   ·rw [if_neg h1,if_neg (by omega)]
theorem qn9 (l : List Bool) : Fv l.length l 0 = qe l.length false := by
 apply List.ext_getElem (by rw [qez,List.length_replicate])
 intro i h1 h2;rw [List.length_replicate] at h2;have h := qek l.length l 0 i h2;rw [if_pos (by omega)] at h
 rw [List.getElem_replicate,← h];simp [qy,h1]
theorem ShA.q0y {t : TypeId} (ht : X6 t) {M N p : Nat} {rows : List (List C)} {cv gv rv : Value} {gvs vs : List Value} {g c n : Nat} (hn : 0 < n) : ∀ (m : Nat) (W : World) (s : Scr) (o : Nat), s.tabs.length = n → ShA t W M N p s rows cv (.slice (some ⟨g, 0, none⟩) n c) gv rv gvs vs →
  ShA t (W.setCells g o (qe m (.bool false))) M N p { s with tabs := Fv m s.tabs o } rows cv (.slice (some ⟨g,0,none⟩) n c) gv rv gvs vs
 | 0,W,s,o,_,h => h
 | m + 1,W,s,o,hl,h => by
  have h1 := ShA.tab ht (by rw [hl];exact h) (by omega) o false
  rw [hl] at h1;have h2 := ShA.q0y ht hn m _ { s with tabs := s.tabs.set o false } (o + 1) (by show (s.tabs.set o false).length = n;rw [List.length_set];exact hl) h1
  exact h2
def Vu (tabs : List Bool) (x : Nat) (k : Int) : List Bool := if k ≤ 0 then tabs.set x false else if k = 3 then qe tabs.length false else tabs
theorem qn4 (M : Nat) (w : World) (s : Scr) (rows : List (List C)) (n x : Nat) (hx : s.x = x) (hxn : x < n) (htl : s.tabs.length = n) (hn : n ≤ 120) : Does 136 #[] M w s { s with tabs := s.tabs.set x true } rows rows := by
 intro W p hb hS;obtain ⟨cv,tv,gv,rv,gvs,vs,hA⟩ := hS;obtain ⟨g,tc,rfl,hg,h1,h2,hcell,A,hgA⟩ := qaq hA.tabs (by omega)
 obtain ⟨⟨-,-,-,c3,-⟩,⟨-,c12,-⟩,-⟩ := Qr hA.blk;have d := hcell x (by omega)
 have fr := K8 hgA x;have HE : Hid (ShAt 110 (W.setCell ⟨g,x,none⟩ (.bool true)).drew M w.heap.size p { s with tabs := s.tabs.set x true } rows ∧ Below w.heap.size W (W.setCell ⟨g,x,none⟩ (.bool true)).drew) := ⟨ShAt.drew ⟨_,_,_,_,_,_,hA.tab Qp (by omega) x true⟩,((qr _ _).setCell hg _).drew⟩
 rw [htl] at c12 h1;rw [hx] at c3;clear hA hcell hgA hx htl hb;generalize s.tabs.getD x false = b0 at *;go_enter Tryz.func136,Tryz.ntmps136;go_upto_region 0 with fail
 go_region
 all_goals go_end0
 all_goals exact ⟨rfl,HE.out⟩
theorem qh5 (k : Int) (B M : Nat) (w : World) (s : Scr) (rows : List (List C)) (n x : Nat) (hB : w.cell? ⟨B,0,none⟩ = some (.int .i64 k)) (hx : s.x = x) (hxn : x < n) (htl : s.tabs.length = n) (hn : n ≤ 120) : Does 211 #[.pointer (some ⟨B,0,none⟩)] M w s { s with tabs := Vu s.tabs x k } rows rows := by
 intro W p hb hS;have hS0 := hS;obtain ⟨cv,tv,gv,rv,gvs,vs,hA⟩ := hS;obtain ⟨g,tc,rfl,hg,h1,h2,hcell,A,hgA⟩ := qaq hA.tabs (by omega)
 obtain ⟨⟨-,-,-,c3,-⟩,⟨-,c12,-⟩,-⟩ := Qr hA.blk;have q0 := Qa hb hB;have fr := K8 hgA
 by_cases hk0 : k ≤ 0
 ·have e : Vu s.tabs x k = s.tabs.set x false := by unfold Vu; rw [if_pos hk0]
  rw [e];have d := hcell x (by omega)
  have fx := fr x;have HE : Hid (ShAt 110 (W.setCell ⟨g,x,none⟩ (.bool false)).drew M w.heap.size p { s with tabs := s.tabs.set x false } rows ∧ Below w.heap.size W (W.setCell ⟨g,x,none⟩ (.bool false)).drew) := ⟨ShAt.drew ⟨_,_,_,_,_,_,hA.tab Qp (by omega) x false⟩,((qr _ _).setCell hg _).drew⟩
  rw [htl] at c12 h1;rw [hx] at c3;clear hA hcell hgA hx htl hb hB e fr hS0;generalize s.tabs.getD x false = b0 at *;go_enter Tryz.func211,Tryz.ntmps211;go_upto_region 1 with fail
  go_region
  all_goals go_wp2_with fail
  all_goals go_end0
  all_goals exact ⟨rfl,HE.out⟩
 ·by_cases hk3 : k = 3
  ·have e : Vu s.tabs x k = qe s.tabs.length false := by unfold Vu; rw [if_neg hk0, if_pos hk3]
   rw [e];have h0 := ShA.q0y Qp (by omega) s.tabs.length W s 0 rfl hA
   rw [qn9] at h0;have HE : Hid (ShAt 110 (W.setCells g 0 (qe s.tabs.length (.bool false))) M w.heap.size p { s with tabs := qe s.tabs.length false } rows ∧ Below w.heap.size W (W.setCells g 0 (qe s.tabs.length (.bool false)))) := ⟨⟨_,_,_,_,_,_,h0⟩,Grd.Zr hg _ _ _ (qr _ _)⟩
   have hcl : ∀ ty,(Builtin.clear_ #[27] ty #[.slice (some ⟨g,0,none⟩) s.tabs.length tc]).run qP W = .ok (.tuple #[]) (W.setCells g 0 (qe s.tabs.length (.bool false))) := fun ty => Lib.run_clear_slice W 27 4 ty (.bool false) Gd (fun w => by kernel_rfl) rfl rfl g 0 s.tabs.length tc (by omega) (fun j hj => by rw [Nat.zero_add,hcell j hj];rfl) (fun j _ => by rw [Nat.zero_add];exact fr j)
   clear hA hcell hgA hx htl hb hB e fr c3 h0 hS0;subst hk3;generalize W.setCells g 0 (qe s.tabs.length (.bool false)) = X at *;go_enter Tryz.func211,Tryz.ntmps211;go_wp2_with fail;go_end0;exact ⟨rfl,HE.out⟩
  ·have e : Vu s.tabs x k = s.tabs := by unfold Vu; rw [if_neg hk0, if_neg hk3]
   rw [e];have hkb : (k == 3) = false := by rw [beq_eq_false_iff_ne];exact hk3
   have HS0 : Hid (ShAt 110 W M w.heap.size p s rows) := hS0;clear hA hcell hgA hx htl hb hB e fr c3 c12 hS0 hk3;go_enter Tryz.func211,Tryz.ntmps211;go_wp2_with fail;go_end0;exact ⟨rfl,HS0.out,qr _ _⟩
theorem qnl (a step : Int) (f : Nat → Nat) (B1 B2 M : Nat) (w : World) (s : Scr) (rows : List (List C)) (x c : Nat) (hB1 : w.cell? ⟨B1, 0, none⟩ = some (.int .i64 a)) (hB2 : w.cell? ⟨B2, 0, none⟩ = some (.int .i64 step)) (hx : s.x = x) (hc : cnt a = c)
  (hf : ∀ W p k,ShAt 110 W M w.heap.size p { s with x := ((Xc f k x : Nat) : Int) } rows → Calls qP 182 #[.pointer (some ⟨p,0,none⟩),.int .i64 step] W fun e w' => e = .returned (.int .i64 (f (Xc f k x) : Nat)) ∧ W = w') :
  Does 181 #[.pointer (some ⟨B1,0,none⟩),.pointer (some ⟨B2,0,none⟩)] M w s { s with x := ((Xc f c x : Nat) : Int) } rows rows := by
 intro W p hb hS;have q1 := Qa hb hB1;have HQ2 : Hid (∀ V,Below w.heap.size W V → V.cell? ⟨B2,0,none⟩ = some (.int .i64 step)) := fun V h => Qa (hb.trans h) hB2
 have hcr := Xw a;have H1 := Yf a W;rw [hc] at H1 hcr;have HS : Hid (ShAt 110 W M w.heap.size p { s with x := ((Xc f 0 x : Nat) : Int) } rows) := by
  unfold Hid
  show ShAt _ _ _ _ _ { s with x := (x : Int) } _
  rw [← hx];exact hS
 have HF : Hid (∀ W p k,ShAt 110 W M w.heap.size p { s with x := ((Xc f k x : Nat) : Int) } rows → Calls qP 182 #[.pointer (some ⟨p,0,none⟩),.int .i64 step] W fun e w' => e = .returned (.int .i64 (f (Xc f k x) : Nat)) ∧ W = w') := hf
 have hlo := hS.lo;clear hb hB1 hB2 hS hf hc hx;go_enter Tryz.func181,Tryz.ntmps181;go_wp2_with fail;refine H1.mono ?_;rintro e V ⟨rfl,hv⟩;subst hv;clear q1 H1;go_wp2_with fail;go_loopg [6] c (fun q i wr => ∃ k : Nat,i = .int .i64 (k : Int) ∧ k ≤ c ∧ c - k ≤ q ∧ ShAt 110 wr M w.heap.size p { s with x := ((Xc f k x : Nat) : Int) } rows ∧ Below w.heap.size W wr)
 case atStart => exact ⟨0,rfl,by omega,by omega,HS.out,qr _ _⟩
 case round =>
  obtain ⟨k,rfl,hk,hq,hSk,hbk⟩ := hrel
  by_cases hlt : k < c
  ·have lt1 : (k : Int) < (c : Int) := by omega
   have q2 := HQ2.out wr hbk;have HN := HF.out wr p k hSk;obtain ⟨c0,c1,c3,c4,c5,c9,c10,c11,c19,fr⟩ := hSk.words;have f3 := fr 3;have HE : Hid (ShAt 110 (wr.setCell ⟨p,3,none⟩ (.int .i64 (f (Xc f k x) : Nat))) M w.heap.size p { s with x := ((Xc f (k + 1) x : Nat) : Int) } rows) := hSk.set Qp 3 _ (fun _ _ _ _ => rfl) rfl rfl
   have HB : Hid (Below w.heap.size W (wr.setCell ⟨p,3,none⟩ (.int .i64 (f (Xc f k x) : Nat)))) := hbk.setCell hlo _;clear hSk hbk c0 c1 c4 c5 c9 c10 c11 c19 fr;generalize f (Xc f k x) = x2 at *;go_wp2_with fail;refine HN.mono ?_;rintro e V ⟨rfl,hv⟩;subst hv;go_wp2_with fail;go_roundg (c - (k + 1))
   case measure => omega
   case rel => exact ⟨k + 1,by go_num,by omega,by omega,HE.out,HB.out⟩
  ·have lt1 : ¬ (k : Int) < (c : Int) := by omega
   have hkc : k = c := by omega
   subst hkc;go_wp2_with fail;go_end0;exact ⟨rfl,hSk,hbk⟩
end Put
namespace Put
open Grd (C SliceAt Qb Qf z0 Q0 flat Qe)
theorem qk4 : Plain 181 := by
 intro args W
 kernel_rfl
theorem qlf : Plain 136 := by
 intro args W
 kernel_rfl
theorem qho : Plain 211 := by
 intro args W
 kernel_rfl
theorem qri : Plain 89 := by
 intro args W
 kernel_rfl
theorem qhm : Plain 155 := by
 intro args W
 kernel_rfl
theorem qie : Plain 94 := by
 intro args W
 kernel_rfl
theorem qe1 : Plain 160 := by
 intro args W
 kernel_rfl
theorem qer {w0 w : World} {s : Scr} {cv tv gv : Value} {n hh : Nat} (h : Came w0 w s cv tv gv) (hR : Qg s n hh) (a b : Int) (f : Nat → Nat) (x c : Nat) (hx : s.x = x) (hc : cnt a = c)
  (hf : ∀ w1 W p k,ShAt 110 W w0.heap.size w1 p { Vj s with x := ((Xc f k x : Nat) : Int) } (Qe n s.cs hh) → Calls qP 182 #[.pointer (some ⟨p,0,none⟩),.int .i64 b] W fun e w' => e = .returned (.int .i64 (f (Xc f k x) : Nat)) ∧ W = w') :
  Calls qP 129 #[.agg (scrA s cv tv gv),.int .i64 a,.int .i64 b] w (Made w0 w (Ji s ((Xc f c x : Nat) : Int) s.y) 0) :=
 qjl s _ cv tv gv a b 0 w0 w h.v h.b.size fun _ B1 B2 hW hB1 hB2 => Jq (h.next hW) (Xn hR) hR _ qk4 _ (fun w1 hw1 => qnl a b f B1 B2 _ w1 (Vj s) _ x c (Qa hw1 hB1) (Qa hw1 hB2) hx hc fun W p k hS => hf w1.heap.size W p k hS) rfl rfl rfl
theorem q1k {w V : World} {s : Scr} {cv tv gv : Value} {A : Array Value} {t t' : TypeId} (hb : Below w.heap.size w V) (h0 : V.heap[w.heap.size]? = some (.cells (scrA s cv tv gv) t (0, 0))) (h1 : V.heap[w.heap.size + 1]? = some (.cells A t' (0, 0))) {s' : Scr} {cv' tv' gv' : Value} :
  Below w.heap.size w (V.setRow (w.heap.size + 1) (scrA s' cv' tv' gv')) ∧ Zj (V.setRow (w.heap.size + 1) (scrA s' cv' tv' gv')) (.pointer (some ⟨w.heap.size,0,none⟩)) ∧ Z7 (V.setRow (w.heap.size + 1) (scrA s' cv' tv' gv')) (.pointer (some ⟨w.heap.size,0,none⟩)) = scrA s cv tv gv ∧ Zc (V.setRow (w.heap.size + 1) (scrA s' cv' tv' gv')) (.pointer (some ⟨w.heap.size + 1,0,none⟩)) := by
 have h2 : (V.setRow (w.heap.size + 1) (scrA s' cv' tv' gv')).heap[w.heap.size]? = _ := (qg _ _ _ _ (by omega)).trans h0
 have h3 := qj V (w.heap.size + 1) A (scrA s' cv' tv' gv') t' _ h1;exact ⟨qi hb (by omega) _,(Qs h2).1,(Qs h2).2,Zb h3 rfl⟩
section
attribute [local go_sem ↓] Xp Jg
attribute [local go_sem] G7 Xx Xy
theorem qnu (s s' : Scr) (cv tv gv : Value) (df : FuncId) (caps : Array Value) (w0 w : World) (hT : Txt.Tab w) (hV : Zh w0 s cv tv gv) (hb0 : Below w0.heap.size w0 w) (hF : Fits s)
  (hCH : ∀ W,Below w.heap.size w W → Calls qP 35 #[.agg (scrA s cv tv gv),.int .i64 (Qj s),.func (.func df) #[] caps] W (Made w0 W s' (Qj s))) :
  Calls qP 130 #[.agg (scrA s cv tv gv),.func (.func df) #[] caps] w (Made w0 w s' (Qj s)) := by
 obtain ⟨ca,cc,rfl⟩ := hV.c.shape;obtain ⟨ta,tc,rfl⟩ := hV.t.slice;obtain ⟨ga,gc,rfl⟩ := hV.g.slice;have hx0 : ((w.alloc (.cells (scS s ca cc ta tc ga gc) 32)).alloc (.cells zA 32)).heap[w.heap.size]? = some (.cells (scS s ca cc ta tc ga gc) 32 (0,0)) := (qs _ _ _ (by simp)).trans (qf _ _)
 have hx1 : ((w.alloc (.cells (scS s ca cc ta tc ga gc) 32)).alloc (.cells zA 32)).heap[w.heap.size + 1]? = some (.cells zA 32 (0,0)) := heap_alloc2_new w _ _;have hkb : Below w.heap.size w ((w.alloc (.cells (scS s ca cc ta tc ga gc) 32)).alloc (.cells zA 32)) := ((qr _ _).alloc (qd _) _).alloc (by simp) _
 have hsz : ((w.alloc (.cells (scS s ca cc ta tc ga gc) 32)).alloc (.cells zA 32)).heap.size = w.heap.size + 2 := by simp
 have HX0 : Hid _ := hx0;have HX1 : Hid _ := hx1;have HKB : Hid _ := hkb;have HSZ : Hid _ := hsz;have HCK : Hid (∀ W,Below w.heap.size w W → Calls qP 6 #[.agg (scS s ca cc ta tc ga gc)] W fun e w' => e = .returned (.int .i64 (Qj s)) ∧ Below W.heap.size W w') := fun W hW => Zt s _ _ _ W (Grd.Tab.next hT hW) (hV.next (hb0.trans (hW.mono hb0.size))) hF
 have HCH : Hid (∀ W,Below w.heap.size w W → Calls qP 35 #[.agg (scS s ca cc ta tc ga gc),.int .i64 (Qj s),.func (.func df) #[] caps] W (Made w0 W s' (Qj s))) := hCH;have hM := hb0.size;clear hx0 hx1 hkb hV hF hT hCH hb0 hsz;generalize Qj s = er at *;go_enter Tryz.func130,Tryz.ntmps130;go_upto_region 1 with fail
 generalize ((w.alloc (.cells (scS s ca cc ta tc ga gc) 32)).alloc (.cells zA 32)) = X at *;have SK : Hid (∀ w',Below X.heap.size X w' → Below w.heap.size w w' ∧ Zj w' (.pointer (some ⟨w.heap.size,0,none⟩)) ∧ Z7 w' (.pointer (some ⟨w.heap.size,0,none⟩)) = (scS s ca cc ta tc ga gc) ∧ Zc w' (.pointer (some ⟨w.heap.size + 1,0,none⟩))) := fun w' hb => by
  have h0 := Grd.carry HX0.out hb;exact ⟨HKB.out.trans (hb.mono HKB.out.size),(Qs h0).1,(Qs h0).2,Zb (Grd.carry HX1.out hb) rfl⟩
 have b0 : Below X.heap.size X X.drew := (qr _ _).drew
 go_region_held3 (fun w' => Below w.heap.size w w' ∧ Zj w' (.pointer (some ⟨w.heap.size, 0, none⟩)) ∧ Z7 w' (.pointer (some ⟨w.heap.size, 0, none⟩)) = (scS s ca cc ta tc ga gc) ∧ Zc w' (.pointer (some ⟨w.heap.size + 1, 0, none⟩)))
  (first | exact KF.out | exact SK.out _ b2 | exact SK.out _ b1 | exact SK.out _ b0)
  (first | (go_at_call 6;refine (HCK.out _ (SK.out _ b0).1).mono ?_;rintro e V1 ⟨rfl,c1⟩;have b1 := b0.trans (c1.mono b0.size);clear c1) | (go_at_call 35;refine (HCH.out _ (SK.out _ b1).1).mono ?_;rintro e V2 ⟨cv',tv',gv',rfl,hO,c2⟩;have b2 := b1.trans (c2.mono b1.size);obtain ⟨a1,n1,c1,a2,n2,c2',a3,n3,c3,rfl,rfl,rfl⟩ := hO.shapes;have HO : Hid (Qo V2 0 _ s' _ _ _) := hO;clear c2 hO;have HR : Hid (V2.heap[w.heap.size + 1]? = _) := Grd.carry HX1.out b2;have KF : Hid (Below w.heap.size w (V2.setRow (w.heap.size + 1) (scT s' a1 n1 c1 a2 n2 c2' a3 n3 c3)) ∧ Zj (V2.setRow (w.heap.size + 1) (scT s' a1 n1 c1 a2 n2 c2' a3 n3 c3)) (.pointer (some ⟨w.heap.size,0,none⟩)) ∧ Z7 (V2.setRow (w.heap.size + 1) (scT s' a1 n1 c1 a2 n2 c2' a3 n3 c3)) (.pointer (some ⟨w.heap.size,0,none⟩)) = (scS s ca cc ta tc ga gc) ∧ Zc (V2.setRow (w.heap.size + 1) (scT s' a1 n1 c1 a2 n2 c2' a3 n3 c3)) (.pointer (some ⟨w.heap.size + 1,0,none⟩))) := q1k (SK.out _ b2).1 (Grd.carry HX0.out b2) HR.out))
 go_wp2_with fail
 (try simp only [qv,qw])
 refine qk (v := .tuple #[.agg (scT s' a1 n1 c1 a2 n2 c2' a3 n3 c3),.int .i64 er]) ?_ rfl ⟨_,_,_,rfl,?_,KF.out.1⟩
 ·exact Grd.Qd rfl _ _ (w.heap.size + 1) _ _ _ _ rfl (qj _ _ _ _ _ _ HR.out) qu rfl (by kernel_rfl) _ rfl
 ·exact (Qo.off HO.out HR.out Ql (by omega) fun k hk => qg _ _ _ _ hk).mono (SK.out _ b1).1.size
end
end Put
namespace Put
open Grd (C)
theorem Gh {W : World} {R : Nat} {v : Value} {t : TypeId} (h : W.heap[R]? = some (.cells #[v] t (0,0))) : W.cell? ⟨R,0,none⟩ = some v := by simp [World.cell?,h]
theorem qkk (s s' : Scr) (cv tv gv : Value) (a : Int) (b : Int) (er : Int) (w0 w : World) (hV : Zh w0 s cv tv gv) (hM : w0.heap.size ≤ w.heap.size)
  (hC : ∀ (W : World) (B1 B2 : Nat),Below w.heap.size w W → W.cell? ⟨B1,0,none⟩ = some (.int .i64 a) → W.cell? ⟨B2,0,none⟩ = some (.int .i64 b) → Calls qP 130 #[.agg (scrA s cv tv gv),.func (.func 217) #[] #[.pointer (some ⟨B1,0,none⟩),.pointer (some ⟨B2,0,none⟩)]] W (Made w0 W s' er)) :
  Calls qP 164 #[.agg (scrA s cv tv gv),.int .i64 a,.int .i64 b] w (Made w0 w s' er) := by
 obtain ⟨ca,cc,rfl⟩ := hV.c.shape;obtain ⟨ta,tc,rfl⟩ := hV.t.slice;obtain ⟨ga,gc,rfl⟩ := hV.g.slice;have hkb : Below w.heap.size w ((((w.alloc (.cells (scS s ca cc ta tc ga gc) 32)).alloc (.cells #[.int .i64 a] 3)).alloc (.cells #[.int .i64 b] 3)).alloc (.cells zA 32)) := (((((qr _ _).alloc (by simp) _).alloc (by simp) _).alloc (by simp;omega) _).alloc (by simp;omega) _)
 have hx0 : (w.alloc (.cells (scS s ca cc ta tc ga gc) 32)).heap[w.heap.size]? = some (.cells (scS s ca cc ta tc ga gc) 32 (0,0)) := by
  have h := qf w (.cells (scS s ca cc ta tc ga gc) 32);have e : w.heap.size = w.heap.size := by simp
  rw [e] at h;exact h
 have hx0 := (qs (w.alloc (.cells (scS s ca cc ta tc ga gc) 32)) (.cells #[.int .i64 a] 3) _ (Qc hx0)).trans hx0;have hx0 := (qs ((w.alloc (.cells (scS s ca cc ta tc ga gc) 32)).alloc (.cells #[.int .i64 a] 3)) (.cells #[.int .i64 b] 3) _ (Qc hx0)).trans hx0;have hx0 := (qs (((w.alloc (.cells (scS s ca cc ta tc ga gc) 32)).alloc (.cells #[.int .i64 a] 3)).alloc (.cells #[.int .i64 b] 3)) (.cells zA 32) _ (Qc hx0)).trans hx0;have hx1 : ((w.alloc (.cells (scS s ca cc ta tc ga gc) 32)).alloc (.cells #[.int .i64 a] 3)).heap[w.heap.size + 1]? = some (.cells #[.int .i64 a] 3 (0,0)) := by
  have h := qf (w.alloc (.cells (scS s ca cc ta tc ga gc) 32)) (.cells #[.int .i64 a] 3);have e : (w.alloc (.cells (scS s ca cc ta tc ga gc) 32)).heap.size = w.heap.size + 1 := by simp
  rw [e] at h;exact h
 have hx1 := (qs ((w.alloc (.cells (scS s ca cc ta tc ga gc) 32)).alloc (.cells #[.int .i64 a] 3)) (.cells #[.int .i64 b] 3) _ (Qc hx1)).trans hx1;have hx1 := (qs (((w.alloc (.cells (scS s ca cc ta tc ga gc) 32)).alloc (.cells #[.int .i64 a] 3)).alloc (.cells #[.int .i64 b] 3)) (.cells zA 32) _ (Qc hx1)).trans hx1;have hx2 : (((w.alloc (.cells (scS s ca cc ta tc ga gc) 32)).alloc (.cells #[.int .i64 a] 3)).alloc (.cells #[.int .i64 b] 3)).heap[w.heap.size + 2]? = some (.cells #[.int .i64 b] 3 (0,0)) := by
  have h := qf ((w.alloc (.cells (scS s ca cc ta tc ga gc) 32)).alloc (.cells #[.int .i64 a] 3)) (.cells #[.int .i64 b] 3);have e : ((w.alloc (.cells (scS s ca cc ta tc ga gc) 32)).alloc (.cells #[.int .i64 a] 3)).heap.size = w.heap.size + 2 := by simp
  rw [e] at h;exact h
 have hx2 := (qs (((w.alloc (.cells (scS s ca cc ta tc ga gc) 32)).alloc (.cells #[.int .i64 a] 3)).alloc (.cells #[.int .i64 b] 3)) (.cells zA 32) _ (Qc hx2)).trans hx2;have hx3 : ((((w.alloc (.cells (scS s ca cc ta tc ga gc) 32)).alloc (.cells #[.int .i64 a] 3)).alloc (.cells #[.int .i64 b] 3)).alloc (.cells zA 32)).heap[w.heap.size + 3]? = some (.cells zA 32 (0,0)) := by
  have h := qf (((w.alloc (.cells (scS s ca cc ta tc ga gc) 32)).alloc (.cells #[.int .i64 a] 3)).alloc (.cells #[.int .i64 b] 3)) (.cells zA 32);have e : (((w.alloc (.cells (scS s ca cc ta tc ga gc) 32)).alloc (.cells #[.int .i64 a] 3)).alloc (.cells #[.int .i64 b] 3)).heap.size = w.heap.size + 3 := by simp
  rw [e] at h;exact h
 have HX0 : Hid _ := hx0;have HXR : Hid _ := hx3;have HKB : Hid _ := hkb;have HC := hC _ (w.heap.size + 1) (w.heap.size + 2) hkb (Gh hx1) (Gh hx2);have hsz : w.heap.size ≤ ((((w.alloc (.cells (scS s ca cc ta tc ga gc) 32)).alloc (.cells #[.int .i64 a] 3)).alloc (.cells #[.int .i64 b] 3)).alloc (.cells zA 32)).heap.size := hkb.size;clear hkb hV hC hx0 hx1 hx2 hx3;go_enter Tryz.func164,Tryz.ntmps164;go_upto_region 1 with fail
 generalize ((((w.alloc (.cells (scS s ca cc ta tc ga gc) 32)).alloc (.cells #[.int .i64 a] 3)).alloc (.cells #[.int .i64 b] 3)).alloc (.cells zA 32)) = X at *;go_wp2_with (refine ql rfl 32 (.tmp 3) rfl w.heap.size rfl _ _ _ _ HX0.out qu rfl (by kernel_rfl) ?_)
 refine HC.mono ?_;rintro e V ⟨cv',tv',gv',rfl,hO,c2⟩;obtain ⟨a1,n1,c1,a2,n2,c2',a3,n3,c3,rfl,rfl,rfl⟩ := hO.shapes;have HO : Hid (Qo V 0 _ s' _ _ _) := hO;have HR : Hid (V.heap[w.heap.size + 3]? = _) := Grd.carry HXR.out c2;have HB : Hid (Below w.heap.size w V) := HKB.out.trans (c2.mono HKB.out.size);clear hO c2 HC;go_wp2_with (refine qh rfl 32 (.tmp 6) (.tmp 11) rfl (w.heap.size + 3) (scT s' a1 n1 c1 a2 n2 c2' a3 n3 c3) rfl rfl _ _ HR.out (by kernel_rfl) rfl (Qm _ _ _ _ _ _ _ _ _ _) ?_)
 (try simp only [qv,qw])
 refine qk (v := .tuple #[.agg (scT s' a1 n1 c1 a2 n2 c2' a3 n3 c3),.int .i64 er]) ?_ rfl ⟨_,_,_,rfl,?_,qi HB.out (by omega) _⟩
 ·exact Grd.Qd rfl _ _ (w.heap.size + 3) _ _ _ _ rfl (qj _ _ _ _ _ _ HR.out) qu rfl (by kernel_rfl) _ rfl
 ·exact (Qo.off HO.out HR.out Ql (by omega) fun k hk => qg _ _ _ _ hk).mono hsz
theorem qih (s s' : Scr) (cv tv gv : Value) (n : Int) (er : Int) (w0 w : World) (hV : Zh w0 s cv tv gv) (hM : w0.heap.size ≤ w.heap.size)
  (hC : ∀ (W : World) (B1 : Nat),Below w.heap.size w W → W.cell? ⟨B1,0,none⟩ = some (.int .i64 n) → Calls qP 130 #[.agg (scrA s cv tv gv),.func (.func 196) #[] #[.pointer (some ⟨B1,0,none⟩)]] W (Made w0 W s' er)) :
  Calls qP 152 #[.agg (scrA s cv tv gv),.int .i64 n] w (Made w0 w s' er) := by
 obtain ⟨ca,cc,rfl⟩ := hV.c.shape;obtain ⟨ta,tc,rfl⟩ := hV.t.slice;obtain ⟨ga,gc,rfl⟩ := hV.g.slice;have hkb : Below w.heap.size w (((w.alloc (.cells (scS s ca cc ta tc ga gc) 32)).alloc (.cells #[.int .i64 n] 3)).alloc (.cells zA 32)) := ((((qr _ _).alloc (by simp) _).alloc (by simp) _).alloc (by simp;omega) _)
 have hx0 : (w.alloc (.cells (scS s ca cc ta tc ga gc) 32)).heap[w.heap.size]? = some (.cells (scS s ca cc ta tc ga gc) 32 (0,0)) := by
  have h := qf w (.cells (scS s ca cc ta tc ga gc) 32);have e : w.heap.size = w.heap.size := by simp
  rw [e] at h;exact h
 have hx0 := (qs (w.alloc (.cells (scS s ca cc ta tc ga gc) 32)) (.cells #[.int .i64 n] 3) _ (Qc hx0)).trans hx0;have hx0 := (qs ((w.alloc (.cells (scS s ca cc ta tc ga gc) 32)).alloc (.cells #[.int .i64 n] 3)) (.cells zA 32) _ (Qc hx0)).trans hx0;have hx1 : ((w.alloc (.cells (scS s ca cc ta tc ga gc) 32)).alloc (.cells #[.int .i64 n] 3)).heap[w.heap.size + 1]? = some (.cells #[.int .i64 n] 3 (0,0)) := by
  have h := qf (w.alloc (.cells (scS s ca cc ta tc ga gc) 32)) (.cells #[.int .i64 n] 3);have e : (w.alloc (.cells (scS s ca cc ta tc ga gc) 32)).heap.size = w.heap.size + 1 := by simp
  rw [e] at h;exact h
 have hx1 := (qs ((w.alloc (.cells (scS s ca cc ta tc ga gc) 32)).alloc (.cells #[.int .i64 n] 3)) (.cells zA 32) _ (Qc hx1)).trans hx1;have hx2 : (((w.alloc (.cells (scS s ca cc ta tc ga gc) 32)).alloc (.cells #[.int .i64 n] 3)).alloc (.cells zA 32)).heap[w.heap.size + 2]? = some (.cells zA 32 (0,0)) := by
  have h := qf ((w.alloc (.cells (scS s ca cc ta tc ga gc) 32)).alloc (.cells #[.int .i64 n] 3)) (.cells zA 32);have e : ((w.alloc (.cells (scS s ca cc ta tc ga gc) 32)).alloc (.cells #[.int .i64 n] 3)).heap.size = w.heap.size + 2 := by simp
  rw [e] at h;exact h
 have HX0 : Hid _ := hx0;have HXR : Hid _ := hx2;have HKB : Hid _ := hkb;have HC := hC _ (w.heap.size + 1) hkb (Gh hx1);have hsz : w.heap.size ≤ (((w.alloc (.cells (scS s ca cc ta tc ga gc) 32)).alloc (.cells #[.int .i64 n] 3)).alloc (.cells zA 32)).heap.size := hkb.size;clear hkb hV hC hx0 hx1 hx2;go_enter Tryz.func152,Tryz.ntmps152;go_upto_region 1 with fail
 generalize (((w.alloc (.cells (scS s ca cc ta tc ga gc) 32)).alloc (.cells #[.int .i64 n] 3)).alloc (.cells zA 32)) = X at *;go_wp2_with (refine ql rfl 32 (.tmp 2) rfl w.heap.size rfl _ _ _ _ HX0.out qu rfl (by kernel_rfl) ?_)
 refine HC.mono ?_;rintro e V ⟨cv',tv',gv',rfl,hO,c2⟩;obtain ⟨a1,n1,c1,a2,n2,c2',a3,n3,c3,rfl,rfl,rfl⟩ := hO.shapes;have HO : Hid (Qo V 0 _ s' _ _ _) := hO;have HR : Hid (V.heap[w.heap.size + 2]? = _) := Grd.carry HXR.out c2;have HB : Hid (Below w.heap.size w V) := HKB.out.trans (c2.mono HKB.out.size);clear hO c2 HC;go_wp2_with (refine qh rfl 32 (.tmp 4) (.tmp 9) rfl (w.heap.size + 2) (scT s' a1 n1 c1 a2 n2 c2' a3 n3 c3) rfl rfl _ _ HR.out (by kernel_rfl) rfl (Qm _ _ _ _ _ _ _ _ _ _) ?_)
 (try simp only [qv,qw])
 refine qk (v := .tuple #[.agg (scT s' a1 n1 c1 a2 n2 c2' a3 n3 c3),.int .i64 er]) ?_ rfl ⟨_,_,_,rfl,?_,qi HB.out (by omega) _⟩
 ·exact Grd.Qd rfl _ _ (w.heap.size + 2) _ _ _ _ rfl (qj _ _ _ _ _ _ HR.out) qu rfl (by kernel_rfl) _ rfl
 ·exact (Qo.off HO.out HR.out Ql (by omega) fun k hk => qg _ _ _ _ hk).mono hsz
theorem qe0 (s s' : Scr) (cv tv gv : Value) (n : Int) (er : Int) (w0 w : World) (hV : Zh w0 s cv tv gv) (hM : w0.heap.size ≤ w.heap.size)
  (hC : ∀ (W : World) (B1 : Nat),Below w.heap.size w W → W.cell? ⟨B1,0,none⟩ = some (.int .i64 n) → Calls qP 130 #[.agg (scrA s cv tv gv),.func (.func 198) #[] #[.pointer (some ⟨B1,0,none⟩)]] W (Made w0 W s' er)) :
  Calls qP 153 #[.agg (scrA s cv tv gv),.int .i64 n] w (Made w0 w s' er) := by
 obtain ⟨ca,cc,rfl⟩ := hV.c.shape;obtain ⟨ta,tc,rfl⟩ := hV.t.slice;obtain ⟨ga,gc,rfl⟩ := hV.g.slice;have hkb : Below w.heap.size w (((w.alloc (.cells (scS s ca cc ta tc ga gc) 32)).alloc (.cells #[.int .i64 n] 3)).alloc (.cells zA 32)) := ((((qr _ _).alloc (by simp) _).alloc (by simp) _).alloc (by simp;omega) _)
 have hx0 : (w.alloc (.cells (scS s ca cc ta tc ga gc) 32)).heap[w.heap.size]? = some (.cells (scS s ca cc ta tc ga gc) 32 (0,0)) := by
  have h := qf w (.cells (scS s ca cc ta tc ga gc) 32);have e : w.heap.size = w.heap.size := by simp
  rw [e] at h;exact h
 have hx0 := (qs (w.alloc (.cells (scS s ca cc ta tc ga gc) 32)) (.cells #[.int .i64 n] 3) _ (Qc hx0)).trans hx0;have hx0 := (qs ((w.alloc (.cells (scS s ca cc ta tc ga gc) 32)).alloc (.cells #[.int .i64 n] 3)) (.cells zA 32) _ (Qc hx0)).trans hx0;have hx1 : ((w.alloc (.cells (scS s ca cc ta tc ga gc) 32)).alloc (.cells #[.int .i64 n] 3)).heap[w.heap.size + 1]? = some (.cells #[.int .i64 n] 3 (0,0)) := by
  have h := qf (w.alloc (.cells (scS s ca cc ta tc ga gc) 32)) (.cells #[.int .i64 n] 3);have e : (w.alloc (.cells (scS s ca cc ta tc ga gc) 32)).heap.size = w.heap.size + 1 := by simp
  rw [e] at h;exact h
 have hx1 := (qs ((w.alloc (.cells (scS s ca cc ta tc ga gc) 32)).alloc (.cells #[.int .i64 n] 3)) (.cells zA 32) _ (Qc hx1)).trans hx1;have hx2 : (((w.alloc (.cells (scS s ca cc ta tc ga gc) 32)).alloc (.cells #[.int .i64 n] 3)).alloc (.cells zA 32)).heap[w.heap.size + 2]? = some (.cells zA 32 (0,0)) := by
  have h := qf ((w.alloc (.cells (scS s ca cc ta tc ga gc) 32)).alloc (.cells #[.int .i64 n] 3)) (.cells zA 32);have e : ((w.alloc (.cells (scS s ca cc ta tc ga gc) 32)).alloc (.cells #[.int .i64 n] 3)).heap.size = w.heap.size + 2 := by simp
  rw [e] at h;exact h
 have HX0 : Hid _ := hx0;have HXR : Hid _ := hx2;have HKB : Hid _ := hkb;have HC := hC _ (w.heap.size + 1) hkb (Gh hx1);have hsz : w.heap.size ≤ (((w.alloc (.cells (scS s ca cc ta tc ga gc) 32)).alloc (.cells #[.int .i64 n] 3)).alloc (.cells zA 32)).heap.size := hkb.size;clear hkb hV hC hx0 hx1 hx2;go_enter Tryz.func153,Tryz.ntmps153;go_upto_region 1 with fail
 generalize (((w.alloc (.cells (scS s ca cc ta tc ga gc) 32)).alloc (.cells #[.int .i64 n] 3)).alloc (.cells zA 32)) = X at *;go_wp2_with (refine ql rfl 32 (.tmp 2) rfl w.heap.size rfl _ _ _ _ HX0.out qu rfl (by kernel_rfl) ?_)
 refine HC.mono ?_;rintro e V ⟨cv',tv',gv',rfl,hO,c2⟩;obtain ⟨a1,n1,c1,a2,n2,c2',a3,n3,c3,rfl,rfl,rfl⟩ := hO.shapes;have HO : Hid (Qo V 0 _ s' _ _ _) := hO;have HR : Hid (V.heap[w.heap.size + 2]? = _) := Grd.carry HXR.out c2;have HB : Hid (Below w.heap.size w V) := HKB.out.trans (c2.mono HKB.out.size);clear hO c2 HC;go_wp2_with (refine qh rfl 32 (.tmp 4) (.tmp 9) rfl (w.heap.size + 2) (scT s' a1 n1 c1 a2 n2 c2' a3 n3 c3) rfl rfl _ _ HR.out (by kernel_rfl) rfl (Qm _ _ _ _ _ _ _ _ _ _) ?_)
 (try simp only [qv,qw])
 refine qk (v := .tuple #[.agg (scT s' a1 n1 c1 a2 n2 c2' a3 n3 c3),.int .i64 er]) ?_ rfl ⟨_,_,_,rfl,?_,qi HB.out (by omega) _⟩
 ·exact Grd.Qd rfl _ _ (w.heap.size + 2) _ _ _ _ rfl (qj _ _ _ _ _ _ HR.out) qu rfl (by kernel_rfl) _ rfl
 ·exact (Qo.off HO.out HR.out Ql (by omega) fun k hk => qg _ _ _ _ hk).mono hsz
theorem qcc (s s' : Scr) (cv tv gv : Value) (n : Int) (er : Int) (w0 w : World) (hV : Zh w0 s cv tv gv) (hM : w0.heap.size ≤ w.heap.size)
  (hC : ∀ (W : World) (B1 : Nat),Below w.heap.size w W → W.cell? ⟨B1,0,none⟩ = some (.int .i64 n) → Calls qP 130 #[.agg (scrA s cv tv gv),.func (.func 186) #[] #[.pointer (some ⟨B1,0,none⟩)]] W (Made w0 W s' er)) :
  Calls qP 144 #[.agg (scrA s cv tv gv),.int .i64 n] w (Made w0 w s' er) := by
 obtain ⟨ca,cc,rfl⟩ := hV.c.shape;obtain ⟨ta,tc,rfl⟩ := hV.t.slice;obtain ⟨ga,gc,rfl⟩ := hV.g.slice;have hkb : Below w.heap.size w (((w.alloc (.cells (scS s ca cc ta tc ga gc) 32)).alloc (.cells #[.int .i64 n] 3)).alloc (.cells zA 32)) := ((((qr _ _).alloc (by simp) _).alloc (by simp) _).alloc (by simp;omega) _)
 have hx0 : (w.alloc (.cells (scS s ca cc ta tc ga gc) 32)).heap[w.heap.size]? = some (.cells (scS s ca cc ta tc ga gc) 32 (0,0)) := by
  have h := qf w (.cells (scS s ca cc ta tc ga gc) 32);have e : w.heap.size = w.heap.size := by simp
  rw [e] at h;exact h
 have hx0 := (qs (w.alloc (.cells (scS s ca cc ta tc ga gc) 32)) (.cells #[.int .i64 n] 3) _ (Qc hx0)).trans hx0;have hx0 := (qs ((w.alloc (.cells (scS s ca cc ta tc ga gc) 32)).alloc (.cells #[.int .i64 n] 3)) (.cells zA 32) _ (Qc hx0)).trans hx0;have hx1 : ((w.alloc (.cells (scS s ca cc ta tc ga gc) 32)).alloc (.cells #[.int .i64 n] 3)).heap[w.heap.size + 1]? = some (.cells #[.int .i64 n] 3 (0,0)) := by
  have h := qf (w.alloc (.cells (scS s ca cc ta tc ga gc) 32)) (.cells #[.int .i64 n] 3);have e : (w.alloc (.cells (scS s ca cc ta tc ga gc) 32)).heap.size = w.heap.size + 1 := by simp
  rw [e] at h;exact h
 have hx1 := (qs ((w.alloc (.cells (scS s ca cc ta tc ga gc) 32)).alloc (.cells #[.int .i64 n] 3)) (.cells zA 32) _ (Qc hx1)).trans hx1;have hx2 : (((w.alloc (.cells (scS s ca cc ta tc ga gc) 32)).alloc (.cells #[.int .i64 n] 3)).alloc (.cells zA 32)).heap[w.heap.size + 2]? = some (.cells zA 32 (0,0)) := by
  have h := qf ((w.alloc (.cells (scS s ca cc ta tc ga gc) 32)).alloc (.cells #[.int .i64 n] 3)) (.cells zA 32);have e : ((w.alloc (.cells (scS s ca cc ta tc ga gc) 32)).alloc (.cells #[.int .i64 n] 3)).heap.size = w.heap.size + 2 := by simp
  rw [e] at h;exact h
 have HX0 : Hid _ := hx0;have HXR : Hid _ := hx2;have HKB : Hid _ := hkb;have HC := hC _ (w.heap.size + 1) hkb (Gh hx1);have hsz : w.heap.size ≤ (((w.alloc (.cells (scS s ca cc ta tc ga gc) 32)).alloc (.cells #[.int .i64 n] 3)).alloc (.cells zA 32)).heap.size := hkb.size;clear hkb hV hC hx0 hx1 hx2;go_enter Tryz.func144,Tryz.ntmps144;go_upto_region 1 with fail
 generalize (((w.alloc (.cells (scS s ca cc ta tc ga gc) 32)).alloc (.cells #[.int .i64 n] 3)).alloc (.cells zA 32)) = X at *;go_wp2_with (refine ql rfl 32 (.tmp 2) rfl w.heap.size rfl _ _ _ _ HX0.out qu rfl (by kernel_rfl) ?_)
 refine HC.mono ?_;rintro e V ⟨cv',tv',gv',rfl,hO,c2⟩;obtain ⟨a1,n1,c1,a2,n2,c2',a3,n3,c3,rfl,rfl,rfl⟩ := hO.shapes;have HO : Hid (Qo V 0 _ s' _ _ _) := hO;have HR : Hid (V.heap[w.heap.size + 2]? = _) := Grd.carry HXR.out c2;have HB : Hid (Below w.heap.size w V) := HKB.out.trans (c2.mono HKB.out.size);clear hO c2 HC;go_wp2_with (refine qh rfl 32 (.tmp 4) (.tmp 9) rfl (w.heap.size + 2) (scT s' a1 n1 c1 a2 n2 c2' a3 n3 c3) rfl rfl _ _ HR.out (by kernel_rfl) rfl (Qm _ _ _ _ _ _ _ _ _ _) ?_)
 (try simp only [qv,qw])
 refine qk (v := .tuple #[.agg (scT s' a1 n1 c1 a2 n2 c2' a3 n3 c3),.int .i64 er]) ?_ rfl ⟨_,_,_,rfl,?_,qi HB.out (by omega) _⟩
 ·exact Grd.Qd rfl _ _ (w.heap.size + 2) _ _ _ _ rfl (qj _ _ _ _ _ _ HR.out) qu rfl (by kernel_rfl) _ rfl
 ·exact (Qo.off HO.out HR.out Ql (by omega) fun k hk => qg _ _ _ _ hk).mono hsz
theorem qcs (s s' : Scr) (cv tv gv : Value) (n : Int) (er : Int) (w0 w : World) (hV : Zh w0 s cv tv gv) (hM : w0.heap.size ≤ w.heap.size)
  (hC : ∀ (W : World) (B1 : Nat),Below w.heap.size w W → W.cell? ⟨B1,0,none⟩ = some (.int .i64 n) → Calls qP 130 #[.agg (scrA s cv tv gv),.func (.func 194) #[] #[.pointer (some ⟨B1,0,none⟩)]] W (Made w0 W s' er)) :
  Calls qP 151 #[.agg (scrA s cv tv gv),.int .i64 n] w (Made w0 w s' er) := by
 obtain ⟨ca,cc,rfl⟩ := hV.c.shape;obtain ⟨ta,tc,rfl⟩ := hV.t.slice;obtain ⟨ga,gc,rfl⟩ := hV.g.slice;have hkb : Below w.heap.size w (((w.alloc (.cells (scS s ca cc ta tc ga gc) 32)).alloc (.cells #[.int .i64 n] 3)).alloc (.cells zA 32)) := ((((qr _ _).alloc (by simp) _).alloc (by simp) _).alloc (by simp;omega) _)
 have hx0 : (w.alloc (.cells (scS s ca cc ta tc ga gc) 32)).heap[w.heap.size]? = some (.cells (scS s ca cc ta tc ga gc) 32 (0,0)) := by
  have h := qf w (.cells (scS s ca cc ta tc ga gc) 32);have e : w.heap.size = w.heap.size := by simp
  rw [e] at h;exact h
 have hx0 := (qs (w.alloc (.cells (scS s ca cc ta tc ga gc) 32)) (.cells #[.int .i64 n] 3) _ (Qc hx0)).trans hx0;have hx0 := (qs ((w.alloc (.cells (scS s ca cc ta tc ga gc) 32)).alloc (.cells #[.int .i64 n] 3)) (.cells zA 32) _ (Qc hx0)).trans hx0;have hx1 : ((w.alloc (.cells (scS s ca cc ta tc ga gc) 32)).alloc (.cells #[.int .i64 n] 3)).heap[w.heap.size + 1]? = some (.cells #[.int .i64 n] 3 (0,0)) := by
  have h := qf (w.alloc (.cells (scS s ca cc ta tc ga gc) 32)) (.cells #[.int .i64 n] 3);have e : (w.alloc (.cells (scS s ca cc ta tc ga gc) 32)).heap.size = w.heap.size + 1 := by simp
  rw [e] at h;exact h
 have hx1 := (qs ((w.alloc (.cells (scS s ca cc ta tc ga gc) 32)).alloc (.cells #[.int .i64 n] 3)) (.cells zA 32) _ (Qc hx1)).trans hx1;have hx2 : (((w.alloc (.cells (scS s ca cc ta tc ga gc) 32)).alloc (.cells #[.int .i64 n] 3)).alloc (.cells zA 32)).heap[w.heap.size + 2]? = some (.cells zA 32 (0,0)) := by
  have h := qf ((w.alloc (.cells (scS s ca cc ta tc ga gc) 32)).alloc (.cells #[.int .i64 n] 3)) (.cells zA 32);have e : ((w.alloc (.cells (scS s ca cc ta tc ga gc) 32)).alloc (.cells #[.int .i64 n] 3)).heap.size = w.heap.size + 2 := by simp
  rw [e] at h;exact h
 have HX0 : Hid _ := hx0;have HXR : Hid _ := hx2;have HKB : Hid _ := hkb;have HC := hC _ (w.heap.size + 1) hkb (Gh hx1);have hsz : w.heap.size ≤ (((w.alloc (.cells (scS s ca cc ta tc ga gc) 32)).alloc (.cells #[.int .i64 n] 3)).alloc (.cells zA 32)).heap.size := hkb.size;clear hkb hV hC hx0 hx1 hx2;go_enter Tryz.func151,Tryz.ntmps151;go_upto_region 1 with fail
 generalize (((w.alloc (.cells (scS s ca cc ta tc ga gc) 32)).alloc (.cells #[.int .i64 n] 3)).alloc (.cells zA 32)) = X at *;go_wp2_with (refine ql rfl 32 (.tmp 2) rfl w.heap.size rfl _ _ _ _ HX0.out qu rfl (by kernel_rfl) ?_)
 refine HC.mono ?_;rintro e V ⟨cv',tv',gv',rfl,hO,c2⟩;obtain ⟨a1,n1,c1,a2,n2,c2',a3,n3,c3,rfl,rfl,rfl⟩ := hO.shapes;have HO : Hid (Qo V 0 _ s' _ _ _) := hO;have HR : Hid (V.heap[w.heap.size + 2]? = _) := Grd.carry HXR.out c2;have HB : Hid (Below w.heap.size w V) := HKB.out.trans (c2.mono HKB.out.size);clear hO c2 HC;go_wp2_with (refine qh rfl 32 (.tmp 4) (.tmp 9) rfl (w.heap.size + 2) (scT s' a1 n1 c1 a2 n2 c2' a3 n3 c3) rfl rfl _ _ HR.out (by kernel_rfl) rfl (Qm _ _ _ _ _ _ _ _ _ _) ?_)
 (try simp only [qv,qw])
 refine qk (v := .tuple #[.agg (scT s' a1 n1 c1 a2 n2 c2' a3 n3 c3),.int .i64 er]) ?_ rfl ⟨_,_,_,rfl,?_,qi HB.out (by omega) _⟩
 ·exact Grd.Qd rfl _ _ (w.heap.size + 2) _ _ _ _ rfl (qj _ _ _ _ _ _ HR.out) qu rfl (by kernel_rfl) _ rfl
 ·exact (Qo.off HO.out HR.out Ql (by omega) fun k hk => qg _ _ _ _ hk).mono hsz
theorem qop (s s' : Scr) (cv tv gv : Value) (er : Int) (w0 w : World) (hV : Zh w0 s cv tv gv) (hM : w0.heap.size ≤ w.heap.size)
  (hC : ∀ (W : World) (_B : Nat),Below w.heap.size w W → Calls qP 130 #[.agg (scrA s cv tv gv),.func (.func 137) #[] #[]] W (Made w0 W s' er)) :
  Calls qP 95 #[.agg (scrA s cv tv gv)] w (Made w0 w s' er) := by
 obtain ⟨ca,cc,rfl⟩ := hV.c.shape;obtain ⟨ta,tc,rfl⟩ := hV.t.slice;obtain ⟨ga,gc,rfl⟩ := hV.g.slice;have hkb : Below w.heap.size w ((w.alloc (.cells (scS s ca cc ta tc ga gc) 32)).alloc (.cells zA 32)) := (((qr _ _).alloc (by simp) _).alloc (by simp) _)
 have hx0 : (w.alloc (.cells (scS s ca cc ta tc ga gc) 32)).heap[w.heap.size]? = some (.cells (scS s ca cc ta tc ga gc) 32 (0,0)) := by
  have h := qf w (.cells (scS s ca cc ta tc ga gc) 32);have e : w.heap.size = w.heap.size := by simp
  rw [e] at h;exact h
 have hx0 := (qs (w.alloc (.cells (scS s ca cc ta tc ga gc) 32)) (.cells zA 32) _ (Qc hx0)).trans hx0;have hx1 : ((w.alloc (.cells (scS s ca cc ta tc ga gc) 32)).alloc (.cells zA 32)).heap[w.heap.size + 1]? = some (.cells zA 32 (0,0)) := by
  have h := qf (w.alloc (.cells (scS s ca cc ta tc ga gc) 32)) (.cells zA 32);have e : (w.alloc (.cells (scS s ca cc ta tc ga gc) 32)).heap.size = w.heap.size + 1 := by simp
  rw [e] at h;exact h
 have HX0 : Hid _ := hx0;have HXR : Hid _ := hx1;have HKB : Hid _ := hkb;have HC := hC _ 0 hkb;have hsz : w.heap.size ≤ ((w.alloc (.cells (scS s ca cc ta tc ga gc) 32)).alloc (.cells zA 32)).heap.size := hkb.size;clear hkb hV hC hx0 hx1;go_enter Tryz.func95,Tryz.ntmps95;go_upto_region 1 with fail
 generalize ((w.alloc (.cells (scS s ca cc ta tc ga gc) 32)).alloc (.cells zA 32)) = X at *;go_wp2_with (refine ql rfl 32 (.tmp 1) rfl w.heap.size rfl _ _ _ _ HX0.out qu rfl (by kernel_rfl) ?_)
 refine HC.mono ?_;rintro e V ⟨cv',tv',gv',rfl,hO,c2⟩;obtain ⟨a1,n1,c1,a2,n2,c2',a3,n3,c3,rfl,rfl,rfl⟩ := hO.shapes;have HO : Hid (Qo V 0 _ s' _ _ _) := hO;have HR : Hid (V.heap[w.heap.size + 1]? = _) := Grd.carry HXR.out c2;have HB : Hid (Below w.heap.size w V) := HKB.out.trans (c2.mono HKB.out.size);clear hO c2 HC;go_wp2_with (refine qh rfl 32 (.tmp 2) (.tmp 6) rfl (w.heap.size + 1) (scT s' a1 n1 c1 a2 n2 c2' a3 n3 c3) rfl rfl _ _ HR.out (by kernel_rfl) rfl (Qm _ _ _ _ _ _ _ _ _ _) ?_)
 (try simp only [qv,qw])
 refine qk (v := .tuple #[.agg (scT s' a1 n1 c1 a2 n2 c2' a3 n3 c3),.int .i64 er]) ?_ rfl ⟨_,_,_,rfl,?_,qi HB.out (by omega) _⟩
 ·exact Grd.Qd rfl _ _ (w.heap.size + 1) _ _ _ _ rfl (qj _ _ _ _ _ _ HR.out) qu rfl (by kernel_rfl) _ rfl
 ·exact (Qo.off HO.out HR.out Ql (by omega) fun k hk => qg _ _ _ _ hk).mono hsz
end Put
namespace Put
open Grd (C SliceAt Qb Qf z0)
theorem qkl (a1 a2 : Option Addr) (c1 c2 : Nat) (w : World) :
  Calls qP 22 #[.slice a1 0 c1,.slice a2 0 c2] w fun e w' => e = .returned (.bool true) ∧ Below w.heap.size w w' := by
 go_enter Tryz.func22,Tryz.ntmps22;go_wp2_with fail;go_loopg [13] 0 (fun g i wr => i = .int .i64 0 ∧ Below w.heap.size w wr)
 case atStart => exact ⟨rfl,qr _ _⟩
 case round =>
  obtain ⟨rfl,hb⟩ := hrel;go_wp2_with fail;go_ret;exact ⟨rfl,hb⟩
theorem qjy (b1 o1 c1 b2 o2 c2 : Nat) (l : List Bool) (w : World) (h1 : ∀ j, j < l.length → w.cell? ⟨b1, o1 + j, none⟩ = some (.bool (l.getD j false))) (h2 : ∀ j, j < l.length → w.cell? ⟨b2, o2 + j, none⟩ = some (.bool (l.getD j false))) (hn : l.length ≤ 4398046511104) :
  Calls qP 22 #[.slice (some ⟨b1,o1,none⟩) l.length c1,.slice (some ⟨b2,o2,none⟩) l.length c2] w fun e w' => e = .returned (.bool true) ∧ Below w.heap.size w w' := by
 have H1 : Hid (∀ j,j < l.length → w.cell? ⟨b1,o1 + j,none⟩ = some (.bool (l.getD j false))) := h1;have H2 : Hid (∀ j,j < l.length → w.cell? ⟨b2,o2 + j,none⟩ = some (.bool (l.getD j false))) := h2;clear h1 h2;generalize hl : l.length = L at *;have HL : Hid (l.length = L) := hl;clear hl;have ne : ((L : Int) != (L : Int)) = false := by simp
 go_enter Tryz.func22,Tryz.ntmps22;go_wp2_with fail;go_loopg [13] L (fun g i wr => ∃ k : Nat,i = .int .i64 (k : Int) ∧ k ≤ L ∧ L - k ≤ g ∧ Below w.heap.size w wr)
 case atStart => exact ⟨0,rfl,by omega,by omega,qr _ _⟩
 case round =>
  obtain ⟨k,rfl,hk,hg,hb⟩ := hrel
  by_cases hlt : k < L
  ·have lt1 : ((k : Int) < (L : Int)) := by omega
   have p0 := Grd.Qk hb (H1.out k hlt);have q0 := Grd.Qk hb (H2.out k hlt);generalize l.getD k false = x at *;have nq : (x != x) = false := by simp
   go_wp2_with fail;go_region;go_wp2_with fail;go_roundg (L - (k + 1))
   case measure => omega
   case rel => exact ⟨k + 1,rfl,by omega,by omega,hb.drew⟩
  ·have lt1 : ¬ ((k : Int) < (L : Int)) := by omega
   go_wp2_with fail;go_ret;exact ⟨rfl,hb⟩
theorem qpk (v1 v2 : Value) (l : List Bool) (w : World) (h1 : Vx w v1 l) (h2 : Vx w v2 l) (hn : l.length ≤ 4398046511104) :
  Calls qP 22 #[v1,v2] w fun e w' => e = .returned (.bool true) ∧ Below w.heap.size w w' := by
 by_cases h0 : l = []
 ·obtain ⟨a1, c1, rfl⟩ := h1.slice
  obtain ⟨a2,c2,rfl⟩ := h2.slice;subst h0;exact qkl a1 a2 c1 c2 w
 ·rcases h1 with ⟨h, -⟩ | ⟨b1, o1, c1, rfl, -, -, hc1⟩
  ·exact absurd h h0
  ·rcases h2 with ⟨h, -⟩ | ⟨b2, o2, c2, rfl, -, -, hc2⟩
   ·exact absurd h h0
   ·exact qjy b1 o1 c1 b2 o2 c2 l w hc1 hc2 hn
theorem qkh (a1 a2 : Option Addr) (c1 c2 : Nat) (w : World) :
  Calls qP 45 #[.slice a1 0 c1,.slice a2 0 c2,.func (.func 44) #[] #[]] w fun e w' => e = .returned (.bool true) ∧ Below w.heap.size w w' := by
 go_enter Tryz.func45,Tryz.ntmps45;go_wp2_with fail;go_loopg [17] 0 (fun g i wr => i = .int .i64 0 ∧ Below w.heap.size w wr)
 case atStart => exact ⟨rfl,qr _ _⟩
 case round =>
  obtain ⟨rfl,hb⟩ := hrel;go_wp2_with fail;go_ret;exact ⟨rfl,hb⟩
def qml (w : World) (b o : Nat) (l : List (List C)) : Prop := ∀ j,j < l.length → ∃ rv,w.cell? ⟨b,o + j,none⟩ = some rv ∧ SliceAt w rv (l.getD j [])
theorem qj4 (b1 o1 c1 b2 o2 c2 : Nat) (l : List (List C)) (w : World) (h1 : qml w b1 o1 l) (h2 : qml w b2 o2 l) (hn : l.length ≤ 4398046511104) (hr : ∀ row, row ∈ l → row.length ≤ 4398046511104) :
  Calls qP 45 #[.slice (some ⟨b1,o1,none⟩) l.length c1,.slice (some ⟨b2,o2,none⟩) l.length c2,.func (.func 44) #[] #[]] w fun e w' => e = .returned (.bool true) ∧ Below w.heap.size w w' := by
 have H1 : Hid (qml w b1 o1 l) := h1;have H2 : Hid (qml w b2 o2 l) := h2;have HR : Hid (∀ k,k < l.length → (l.getD k []).length ≤ 4398046511104) := fun k hk => by
  rw [List.getD_eq_getElem?_getD,List.getElem?_eq_getElem hk];exact hr _ (List.getElem_mem hk)
 clear h1 h2 hr;unfold qml at H1 H2;generalize hl : l.length = L at *;have HL : Hid (l.length = L) := hl;clear hl;have ne : ((L : Int) != (L : Int)) = false := by simp
 go_enter Tryz.func45,Tryz.ntmps45;go_wp2_with fail;go_loopg [17] L (fun g i wr => ∃ k : Nat,i = .int .i64 (k : Int) ∧ k ≤ L ∧ L - k ≤ g ∧ Below w.heap.size w wr)
 case atStart => exact ⟨0,rfl,by omega,by omega,qr _ _⟩
 case round =>
  obtain ⟨k,rfl,hk,hg,hb⟩ := hrel
  by_cases hlt : k < L
  ·have lt1 : ((k : Int) < (L : Int)) := by omega
   obtain ⟨r1,p0,s1⟩ := H1.out k hlt;obtain ⟨r2,q0,s2⟩ := H2.out k hlt;have p1 := Grd.Qk hb p0;have q1 := Grd.Qk hb q0;have HS1 : Hid (SliceAt wr r1 (l.getD k [])) := s1.below hb;have HS2 : Hid (SliceAt wr r2 (l.getD k [])) := s2.below hb;have HLN : Hid ((l.getD k []).length ≤ 4398046511104) := HR.out k hlt;have HB : Hid (Below w.heap.size w wr) := hb;obtain ⟨a1,d1,rfl⟩ := s1.shape;obtain ⟨a2,d2,rfl⟩ := s2.shape;clear p0 q0 s1 s2 hb;generalize l.getD k [] = row at *;go_wp2_with fail;refine (Grd.Uw _ _ row _ HS1.out HS2.out HLN.out).mono ?_;rintro e W1 ⟨rfl,b1⟩;have HB1 : Hid (Below w.heap.size w W1) := HB.out.trans (b1.mono HB.out.size);clear b1 p1 q1;go_wp2_with fail;go_roundg (L - (k + 1))
   case measure => omega
   case rel => exact ⟨k + 1,rfl,by omega,by omega,HB1.out⟩
  ·have lt1 : ¬ ((k : Int) < (L : Int)) := by omega
   go_wp2_with fail;go_ret;exact ⟨rfl,hb⟩
theorem qqr (v1 v2 : Value) (l : List (List C)) (w : World) (h1 : Vw w v1 l) (h2 : Vw w v2 l) (hn : l.length ≤ 4398046511104) (hr : ∀ row, row ∈ l → row.length ≤ 4398046511104) :
  Calls qP 45 #[v1,v2,.func (.func 44) #[] #[]] w fun e w' => e = .returned (.bool true) ∧ Below w.heap.size w w' := by
 by_cases h0 : l = []
 ·obtain ⟨a1, c1, rfl⟩ := h1.slice
  obtain ⟨a2,c2,rfl⟩ := h2.slice;subst h0;exact qkh a1 a2 c1 c2 w
 ·rcases h1 with ⟨h, -⟩ | ⟨b1, o1, c1, rfl, -, -, hc1⟩
  ·exact absurd h h0
  ·rcases h2 with ⟨h, -⟩ | ⟨b2, o2, c2, rfl, -, -, hc2⟩
   ·exact absurd h h0
   ·exact qj4 b1 o1 c1 b2 o2 c2 l w hc1 hc2 hn hr
theorem qkn (v1 v2 : Value) (l : List (List C)) (w : World) (h1 : Vw w v1 l) (h2 : Vw w v2 l) (hn : l.length ≤ 4398046511104) (hr : ∀ row, row ∈ l → row.length ≤ 4398046511104) :
  Calls qP 23 #[v1,v2] w fun e w' => e = .returned (.bool true) ∧ Below w.heap.size w w' := by
 have HC := qqr v1 v2 l w h1 h2 hn hr;obtain ⟨a1,d1,rfl⟩ := h1.slice;obtain ⟨a2,d2,rfl⟩ := h2.slice;clear h1 h2;go_enter Tryz.func23,Tryz.ntmps23;go_wp2_with fail;refine HC.mono ?_;rintro e W1 ⟨rfl,b1⟩;clear HC;go_wp2_with fail;go_ret;exact ⟨rfl,b1⟩
theorem qvm (f b x : Int) (w : World) : (binOp .eql 26 (.agg #[.int .i64 f,.int .i64 b,.int .i64 x]) (.agg #[.int .i64 f,.int .i64 b,.int .i64 x])).run qP w = .ok (.bool true) w := by
 go_simp
theorem qyv (a b c d e f : Int) (w : World) : (binOp .eql 29 (.agg #[.int .i64 a,.int .i64 b,.int .i64 c,.int .i64 d,.int .i64 e,.int .i64 f]) (.agg #[.int .i64 a,.int .i64 b,.int .i64 c,.int .i64 d,.int .i64 e,.int .i64 f])).run qP w = .ok (.bool true) w := by
 go_simp
structure Small (s : Scr) : Prop where
 c : s.cs.length ≤ 4398046511104
 t : s.tabs.length ≤ 4398046511104
 g : s.gone.length ≤ 4398046511104
 r : ∀ row,row ∈ s.gone → row.length ≤ 4398046511104
theorem qf8 (s : Scr) (cv tv gv cv' tv' gv' : Value) (w : World) (h1 : Zh w s cv tv gv) (h2 : Zh w s cv' tv' gv') (hS : Small s) :
  Calls qP 7 #[.agg (scrA s cv tv gv),.agg (scrA s cv' tv' gv')] w fun e w' => e = .returned (.bool true) ∧ Below w.heap.size w w' := by
 obtain ⟨ca,cc,rfl⟩ := h1.c.shape;obtain ⟨ta,tc,rfl⟩ := h1.t.slice;obtain ⟨ga,gc,rfl⟩ := h1.g.slice;obtain ⟨ca',cc',rfl⟩ := h2.c.shape;obtain ⟨ta',tc',rfl⟩ := h2.t.slice;obtain ⟨ga',gc',rfl⟩ := h2.g.slice;have x0 := qf w (.cells (scS s ca cc ta tc ga gc) 32);have y0 := (qs (w.alloc (.cells (scS s ca cc ta tc ga gc) 32)) (.cells (scT s ca' s.cs.length cc' ta' s.tabs.length tc' ga' s.gone.length gc') 32) _ (Qc x0)).trans x0;have y1 := qf (w.alloc (.cells (scS s ca cc ta tc ga gc) 32)) (.cells (scT s ca' s.cs.length cc' ta' s.tabs.length tc' ga' s.gone.length gc') 32);have kb : Below w.heap.size w ((w.alloc (.cells (scS s ca cc ta tc ga gc) 32)).alloc (.cells (scT s ca' s.cs.length cc' ta' s.tabs.length tc' ga' s.gone.length gc') 32)) := ((qr _ _).alloc (qd _) _).alloc (by simp) _
 have es : (w.alloc (.cells (scS s ca cc ta tc ga gc) 32)).heap.size = w.heap.size + 1 := by simp
 rw [es] at y1;have HKB : Hid _ := kb;have HV1 : Hid (Zh w s _ _ _) := h1;have HV2 : Hid (Zh w s _ _ _) := h2;have HS : Hid (Small s) := hS;have HY0 : Hid _ := y0;have HY1 : Hid _ := y1;have aw : (s.w == s.w) = true := by simp
 obtain ⟨⟨c0,c1,c2,-⟩,-,-⟩ := Qi y0;obtain ⟨⟨d0,d1,d2,-⟩,-,-⟩ := Qi y1;have HG := Grd.qji s.w s.h _ _ s.cs _ (h1.c.below kb) (h2.c.below kb) hS.c;clear x0 y0 y1 kb h1 h2 hS es;go_enter Tryz.func7,Tryz.ntmps7;go_wp2_with fail;refine HG.mono ?_;rintro e W1 ⟨rfl,b1⟩;clear HG c0 c1 c2 d0 d1 d2;have HB1 : Hid (Below w.heap.size w W1) := HKB.out.trans (b1.mono HKB.out.size);have HZ0 : Hid (W1.heap[w.heap.size]? = _) := Grd.carry HY0.out b1;have HZ1 : Hid (W1.heap[w.heap.size + 1]? = _) := Grd.carry HY1.out b1;clear b1 HY0 HY1 HKB;obtain ⟨⟨c0,c1,c2,c3,c4,c5,c6,c7,c8,c9,c10⟩,⟨c11,c12,c13,c14,c15,c16,c17,c18,c19,c20,c21⟩,-⟩ := Qi HZ0.out;obtain ⟨⟨d0,d1,d2,d3,d4,d5,d6,d7,d8,d9,d10⟩,⟨d11,d12,d13,d14,d15,d16,d17,d18,d19,d20,d21⟩,-⟩ := Qi HZ1.out;have HT := qpk _ _ s.tabs _ (HV1.out.t.next HB1.out) (HV2.out.t.next HB1.out) HS.out.t;have q1 := qvm s.sf s.sb s.sx;have q2 := qyv s.kx s.ky s.kf s.kb s.kbits s.km;go_wp2_with fail;refine HT.mono ?_;rintro e W2 ⟨rfl,b2⟩;clear HT c0 c1 c2 c3 c4 c5 c6 c7 c8 c9 c10 c11 c12 c13 c14 c15 c16 c17 c18 c19 c20 c21 d0 d1 d2 d3 d4 d5 d6 d7 d8 d9 d10 d11 d12 d13 d14 d15 d16 d17 d18 d19 d20 d21;have HB2 : Hid (Below w.heap.size w W2) := HB1.out.trans (b2.mono HB1.out.size);have HA0 : Hid (W2.heap[w.heap.size]? = _) := Grd.carry HZ0.out b2;have HA1 : Hid (W2.heap[w.heap.size + 1]? = _) := Grd.carry HZ1.out b2;clear b2 HZ0 HZ1 HB1;obtain ⟨-,⟨c11,c12,c13,c14,c15,c16,c17,c18,c19,c20,c21⟩,-⟩ := Qi HA0.out;obtain ⟨-,⟨d11,d12,d13,d14,d15,d16,d17,d18,d19,d20,d21⟩,-⟩ := Qi HA1.out;have HR := qkn _ _ s.gone _ (HV1.out.g.next HB2.out) (HV2.out.g.next HB2.out) HS.out.g HS.out.r;go_wp2_with fail;refine HR.mono ?_;rintro e W3 ⟨rfl,b3⟩;clear HR;have HB3 : Hid (Below w.heap.size w W3) := HB2.out.trans (b3.mono HB2.out.size);clear b3 HA0 HA1 c11 c12 c13 c14 c15 c16 c17 c18 c19 c20 c21 d11 d12 d13 d14 d15 d16 d17 d18 d19 d20 d21;go_wp2_with fail;go_ret;exact ⟨rfl,HB3.out⟩
end Put
namespace Put
open Grd (C SliceAt Qb Qf z0 Q0 flat Qe Q8)
theorem Yh {s : Scr} {n hh : Nat} (h : Qg s n hh) : Qj s = 0 := by
 have hz := h.gz;rw [← h.w,← h.h] at hz;have hp : Vb s = true := by
  have := h.w;have := h.h;have := h.x0;have := h.x1;have := h.y0;have := h.y1;have := h.kx0;have := h.kx1;have := h.ky0;have := h.ky1;have := h.t0;have := h.t1;have := h.t2;have := h.t3;simp only [Vb,hasC,Kz,Bool.and_eq_true,Bool.or_eq_true,decide_eq_true_eq];omega
 have hr : Xo s = true := by
  simp only [Xo,Bool.and_eq_true,Bool.or_eq_true,Bool.not_eq_true',decide_eq_true_eq,decide_eq_false_iff_not];exact ⟨by rw [h.w,h.tl],h.la,h.ti⟩
 have hg : X8 s.gone = 0 := by
  unfold X8;rw [if_neg (by have := h.gl;omega)]
  have hb : Xu s.gone = false := by
   unfold Xu;rw [List.any_eq_false];intro row hrow;simp [h.gr row hrow]
  rw [hb]
  rfl
 unfold Qj;rw [if_neg (by rw [hz];simp),if_neg (by rw [hp];simp),if_neg (by rw [h.late];simp),if_neg (by rw [h.looks];simp),if_neg (by rw [hr];simp),hg]
theorem q0a {s : Scr} {n hh : Nat} (h : Qg s n hh) : Small s := by
 refine ⟨?_,?_,?_,?_⟩
 ·have h1 := h.cl
  have h2 := Nat.mul_le_mul h.n2 h.h2;omega
 ·have := h.tl
  have := h.n2;omega
 ·have := h.gl
  omega
 ·intro row hrow
  have := (Vk (h.gr row hrow)).2.1;omega
theorem F8 {s : Scr} {n hh : Nat} (hR : Qg s n hh) (s' : Scr) (rows' : List (List C)) (hl : rows'.length = hh) (hn : ∀ i,i < rows'.length → (rows'.getD i []).length = n) (hg : s'.gone.length ≤ 51) (hg2 : ∀ i,i < s'.gone.length → (s'.gone.getD i []).length ≤ 1048576) : V6 s' rows' := by
 have n1 := hR.n1;have n2 := hR.n2;have h1 := hR.h1;have h2 := hR.h2;have hlen := Grd.Yb n rows' hn hh (by omega)
 rw [← hl,List.take_length] at hlen;refine ⟨by omega,by omega,fun i hi e => ?_,?_,by omega,hg2⟩
 ·have := hn i hi
  rw [e] at this;simp at this;omega
 ·rw [hlen]
  have := Nat.mul_le_mul (show rows'.length ≤ 60 by omega) n2
  omega
theorem Ya {s : Scr} {n hh : Nat} (hR : Qg s n hh) (s' : Scr) (hg : s'.gone = s.gone) : V6 s' (Qe n s.cs hh) :=
 F8 hR s' _ (Grd.Qt _ _ _) (Gn hR) (by rw [hg];have := hR.gl;omega) (fun i hi => by rw [hg] at hi ⊢;have := hR.Ue i hi;omega)
theorem K7 {w0 w : World} {s s' : Scr} {cv tv gv : Value} {n hh : Nat} (h : Met w0 w s cv tv gv) (hR : Qg s n hh) (df : FuncId) (hpl : Plain df) (caps : Array Value) (rows' : List (List C)) (cs' : List C)
  (hM : ∀ w1,Below w.heap.size w w1 → Does df caps w0.heap.size w1 s s' (Qe n s.cs hh) rows') (hO : V6 s' rows') (hcs : rows'.flatten = cs') :
  Calls qP 130 #[.agg (scrA s cv tv gv),.func (.func df) #[] caps] w (Made w0 w { s' with cs := cs' } 0) := by
 have hz := Yh hR;have key := qnu s { s' with cs := cs' } cv tv gv df caps w0 w h.t h.v h.b h.f fun W hW => by
  rw [hz];exact Jl n hh s s' rows' cv tv gv df hpl caps w0 W h.v (h.b.trans (hW.mono h.b.size)) h.f hR.w hR.h hR.gz (fun w1 hw1 => hM w1 (hW.trans (hw1.mono hW.size))) hO cs' hcs
 rwa [hz] at key
end Put
namespace Put
open Grd (C Q0)
def q1q : Go.Shelf.Ren := ⟨fun | 45 => 221 | n => n,fun | 0 => 0 | 3 => 3 | 4 => 4 | 22 => 30 | 23 => 22 | n => n,fun | n => n⟩
theorem qzl : SlLaysE.n45 qP q1q := {
 mixed := by kernel_rfl
 f45 := Exists.intro "slices.Delete[[][]trellis/api.Cell,[]trellis/api.Cell]" ⟨by kernel_rfl, Tryz.func221.trans (congrArg some (by kernel_rfl))⟩
 t0 := Tryz.underlying0
 a0 := Tryz.isAgg0
 z0 := Tryz.sizeOf0
 v0 := Tryz.zeroValue0
 t3 := Tryz.underlying3
 a3 := Tryz.isAgg3
 z3 := Tryz.sizeOf3
 v3 := Tryz.zeroValue3
 t4 := Tryz.underlying4
 a4 := Tryz.isAgg4
 z4 := Tryz.sizeOf4
 v4 := Tryz.zeroValue4
 t22 := Tryz.underlying30
 a22 := Tryz.isAgg30
 z22 := Tryz.sizeOf30
 v22 := Tryz.zeroValue30
 a23 := Tryz.isAgg22
 z23 := Tryz.sizeOf22 }
abbrev Sl := Option Addr × Nat × Nat
def encS (x : Sl) : Value := .slice x.1 x.2.1 x.2.2
theorem qw0 : OneCell encS := fun _ => rfl
def IsSl (v : Value) : Prop := ∃ x : Sl,v = encS x
theorem qwn : ∀ (vs : List Value), (∀ v, v ∈ vs → IsSl v) → ∃ zs : List Sl, vs = zs.map encS
 | [],_ => ⟨[],rfl⟩
 | v :: vs,h => by
  obtain ⟨x,hx⟩ := h v (by simp)
  obtain ⟨zs,hz⟩ := qwn vs fun u hu => h u (by simp [hu])
  exact ⟨x :: zs,by rw [hx,hz];rfl⟩
theorem qaa : (Tryz.prog.info? 22).map (·.size) = some 1 := by kernel_rfl
theorem qkb {w : World} {g q k : Nat} {d : Array Sl} (h : k ≠ g) : (Sort.putRow encS (Sort.ahead w q) g 0 d).heap[k]? = w.heap[k]? := by
 simp [Sort.putRow,Sort.mapBlock,Sort.ahead,Array.getElem?_modify,Ne.symm h]
theorem qgz (N g n cap i : Nat) (vs : List Value) (w : World) (h : w.ownsRow N 22 1 (.slice (some ⟨g, 0, none⟩) n cap) n vs) (hv : ∀ v, v ∈ vs → IsSl v) (hi : i < n) :
  Calls qP 221 #[.slice (some ⟨g,0,none⟩) n cap,.int .i64 (i : Int),.int .i64 ((i + 1 : Nat) : Int)] w fun e w' => e = .returned (.slice (some ⟨g,0,none⟩) (n - 1) cap) ∧ w'.ownsRow N 22 1 (.slice (some ⟨g,0,none⟩) (n - 1) cap) (n - 1) (vs.eraseIdx i) ∧ (∀ k,k ≠ g → w'.heap[k]? = w.heap[k]?) ∧ Below g w w' := by
 obtain ⟨zs,rfl⟩ := qwn vs hv;obtain ⟨g',cap',e0,-,-,h1,h2,hl,hH⟩ := Lib.holds_of_ownsRow h (by intro e;cases e)
 injection e0 with e1 _ e3
 injection e1 with e1
 injection e1 with e1
 subst e1 e3;obtain ⟨i0,hi0,hz⟩ := Option.map_eq_some_iff.1 qaa;have key := AnyE.slices_Delete qzl encS qw0 (none,0,0) Tryz.zeroValue22 i0 hi0 hz g 0 cap i (i + 1) zs.toArray w hH (by simpa [hl] using h1) (by unfold maxLen at h2;omega) (by omega) (by simp;omega)
 have hsz : zs.toArray.size = n := by simp [hl]
 rw [hsz,Nat.add_sub_cancel_left] at key;refine Calls.mono key ?_;rintro e w' ⟨rfl,q,rfl⟩;refine ⟨rfl,?_,fun k hk => qkb hk,Lib.below_putRow (qr _ _) (qd _)⟩
 have hlen : (zs.take i ++ zs.drop (i + 1) ++ qe 1 ((none,0,0) : Sl)).length = n := by simp;omega
 have := Lib.ownsRow_putRow (q := q) (k := n - 1) h hlen (by omega)
 have e : (zs.take i ++ zs.drop (i + 1) ++ qe 1 ((none,0,0) : Sl)).take (n - 1) = zs.eraseIdx i := by
  rw [List.eraseIdx_eq_take_drop_succ,List.take_left' (by simp;omega)]
 rw [e] at this;have e2 : (zs.map encS).eraseIdx i = (zs.eraseIdx i).map encS := by rw [List.eraseIdx_eq_take_drop_succ,List.eraseIdx_eq_take_drop_succ,List.map_append,List.map_take,List.map_drop]
 rw [e2];exact this
end Put
end Go.Proofs.YtooobiigijphkaaGreatDoor
