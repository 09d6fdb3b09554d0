/- Parts of the proof, shortened by a program. -/
import Derived.Test.YtooobiigijphkaaGreatDoorPartG
import Derived.Test.YtooobiigijphkaaGreatDoorPartM
import Derived.Test.YtooobiigijphkaaGreatDoorPartF
import Derived.Test.YtooobiigijphkaaGreatDoorPartJ
set_option maxHeartbeats 4000000
open Nat renaming le_refl → qd
open List renaming getD → qy
open Go renaming heap_alloc_new → qf, setRow_other → qg, wpList_store_row → qh, below_setRow → qi, setRow_heap → qj, bodyPost_ret → qk, wpList_load_row → ql
open Go.RowKit.Below renaming refl → qr, heap_alloc → qs
open Go.Proofs.Tryz renaming prog → qP, underlying32 → qu
open Go.Exit renaming inBlock → qv, «then» → qw
namespace Go.Proofs.YtooobiigijphkaaGreatDoor
set_option linter.unusedVariables false
set_option linter.unusedSimpArgs false
set_option maxRecDepth 100000
open Go.ChangeShapes Go.WideShapes Go.ChangeAt Go.RowKit
namespace Put
open Grd (C)
theorem Kb {W : World} {R : Nat} {v : Value} {t : TypeId} (h : W.heap[R]? = some (.cells #[v] t (0,0))) : W.cell? ⟨R,0,none⟩ = some v := by simp [World.cell?,h]
theorem qm9 (s s' : Scr) (cv tv gv : Value) (tf : FuncId) (tcaps : Array Value) (er : Int) (w0 w : World) (hV : Zh w0 s cv tv gv) (hM : w0.heap.size ≤ w.heap.size)
  (hC : ∀ (W : World) (B1 : Nat),Below w.heap.size w W → W.cell? ⟨B1,0,none⟩ = some (.func (.func tf) #[] tcaps) → Calls qP 208 #[.agg (scrA s cv tv gv),.func (.func 228) #[] #[.pointer (some ⟨B1,0,none⟩)]] W (Made w0 W s' er)) :
  Calls qP 199 #[.agg (scrA s cv tv gv),.func (.func tf) #[] tcaps] w (Made w0 w s' er) := by
 obtain ⟨ca,cc,rfl⟩ := hV.c.shape;obtain ⟨ta,tc,rfl⟩ := hV.t.slice;obtain ⟨ga,gc,rfl⟩ := hV.g.slice;have hkb : Below w.heap.size w (((w.alloc (.cells (scS s ca cc ta tc ga gc) 32)).alloc (.cells #[.func (.func tf) #[] tcaps] 85)).alloc (.cells zA 32)) := ((((qr _ _).alloc (by simp) _).alloc (by simp) _).alloc (by simp;omega) _)
 have hx0 : (w.alloc (.cells (scS s ca cc ta tc ga gc) 32)).heap[w.heap.size]? = some (.cells (scS s ca cc ta tc ga gc) 32 (0,0)) := by
  have h := qf w (.cells (scS s ca cc ta tc ga gc) 32);have e : w.heap.size = w.heap.size := by simp
  rw [e] at h;exact h
 have hx0 := (qs (w.alloc (.cells (scS s ca cc ta tc ga gc) 32)) (.cells #[.func (.func tf) #[] tcaps] 85) _ (Qc hx0)).trans hx0;have hx0 := (qs ((w.alloc (.cells (scS s ca cc ta tc ga gc) 32)).alloc (.cells #[.func (.func tf) #[] tcaps] 85)) (.cells zA 32) _ (Qc hx0)).trans hx0;have hx1 : ((w.alloc (.cells (scS s ca cc ta tc ga gc) 32)).alloc (.cells #[.func (.func tf) #[] tcaps] 85)).heap[w.heap.size + 1]? = some (.cells #[.func (.func tf) #[] tcaps] 85 (0,0)) := by
  have h := qf (w.alloc (.cells (scS s ca cc ta tc ga gc) 32)) (.cells #[.func (.func tf) #[] tcaps] 85);have e : (w.alloc (.cells (scS s ca cc ta tc ga gc) 32)).heap.size = w.heap.size + 1 := by simp
  rw [e] at h;exact h
 have hx1 := (qs ((w.alloc (.cells (scS s ca cc ta tc ga gc) 32)).alloc (.cells #[.func (.func tf) #[] tcaps] 85)) (.cells zA 32) _ (Qc hx1)).trans hx1;have hx2 : (((w.alloc (.cells (scS s ca cc ta tc ga gc) 32)).alloc (.cells #[.func (.func tf) #[] tcaps] 85)).alloc (.cells zA 32)).heap[w.heap.size + 2]? = some (.cells zA 32 (0,0)) := by
  have h := qf ((w.alloc (.cells (scS s ca cc ta tc ga gc) 32)).alloc (.cells #[.func (.func tf) #[] tcaps] 85)) (.cells zA 32);have e : ((w.alloc (.cells (scS s ca cc ta tc ga gc) 32)).alloc (.cells #[.func (.func tf) #[] tcaps] 85)).heap.size = w.heap.size + 2 := by simp
  rw [e] at h;exact h
 have HX0 : Hid _ := hx0;have HXR : Hid _ := hx2;have HKB : Hid _ := hkb;have HC := hC _ (w.heap.size + 1) hkb (Kb hx1);have hsz : w.heap.size ≤ (((w.alloc (.cells (scS s ca cc ta tc ga gc) 32)).alloc (.cells #[.func (.func tf) #[] tcaps] 85)).alloc (.cells zA 32)).heap.size := hkb.size;clear hkb hV hC hx0 hx1 hx2;go_enter Tryz.func199,Tryz.ntmps199;go_upto_region 1 with fail
 generalize (((w.alloc (.cells (scS s ca cc ta tc ga gc) 32)).alloc (.cells #[.func (.func tf) #[] tcaps] 85)).alloc (.cells zA 32)) = X at *;go_wp2_with (refine ql rfl 32 (.tmp 2) rfl w.heap.size rfl _ _ _ _ HX0.out qu rfl (by kernel_rfl) ?_)
 refine HC.mono ?_;rintro e V ⟨cv',tv',gv',rfl,hO,c2⟩;obtain ⟨a1,n1,c1,a2,n2,c2',a3,n3,c3,rfl,rfl,rfl⟩ := hO.shapes;have HO : Hid (Qo V 0 _ s' _ _ _) := hO;have HR : Hid (V.heap[w.heap.size + 2]? = _) := Grd.carry HXR.out c2;have HB : Hid (Below w.heap.size w V) := HKB.out.trans (c2.mono HKB.out.size);clear hO c2 HC;go_wp2_with (refine qh rfl 32 (.tmp 4) (.tmp 9) rfl (w.heap.size + 2) (scT s' a1 n1 c1 a2 n2 c2' a3 n3 c3) rfl rfl _ _ HR.out (by kernel_rfl) rfl (Qm _ _ _ _ _ _ _ _ _ _) ?_)
 (try simp only [qv,qw])
 refine qk (v := .tuple #[.agg (scT s' a1 n1 c1 a2 n2 c2' a3 n3 c3),.int .i64 er]) ?_ rfl ⟨_,_,_,rfl,?_,qi HB.out (by omega) _⟩
 ·exact Grd.Qd rfl _ _ (w.heap.size + 2) _ _ _ _ rfl (qj _ _ _ _ _ _ HR.out) qu rfl (by kernel_rfl) _ rfl
 ·exact (Qo.off HO.out HR.out Ql (by omega) fun k hk => qg _ _ _ _ hk).mono hsz
theorem qfx (s s' : Scr) (cv tv gv : Value) (n : Int) (er : Int) (w0 w : World) (hV : Zh w0 s cv tv gv) (hM : w0.heap.size ≤ w.heap.size)
  (hC : ∀ (W : World) (B1 : Nat),Below w.heap.size w W → W.cell? ⟨B1,0,none⟩ = some (.int .i64 n) → Calls qP 199 #[.agg (scrA s cv tv gv),.func (.func 210) #[] #[.pointer (some ⟨B1,0,none⟩)]] W (Made w0 W s' er)) :
  Calls qP 159 #[.agg (scrA s cv tv gv),.int .i64 n] w (Made w0 w s' er) := by
 obtain ⟨ca,cc,rfl⟩ := hV.c.shape;obtain ⟨ta,tc,rfl⟩ := hV.t.slice;obtain ⟨ga,gc,rfl⟩ := hV.g.slice;have hkb : Below w.heap.size w (((w.alloc (.cells (scS s ca cc ta tc ga gc) 32)).alloc (.cells #[.int .i64 n] 3)).alloc (.cells zA 32)) := ((((qr _ _).alloc (by simp) _).alloc (by simp) _).alloc (by simp;omega) _)
 have hx0 : (w.alloc (.cells (scS s ca cc ta tc ga gc) 32)).heap[w.heap.size]? = some (.cells (scS s ca cc ta tc ga gc) 32 (0,0)) := by
  have h := qf w (.cells (scS s ca cc ta tc ga gc) 32);have e : w.heap.size = w.heap.size := by simp
  rw [e] at h;exact h
 have hx0 := (qs (w.alloc (.cells (scS s ca cc ta tc ga gc) 32)) (.cells #[.int .i64 n] 3) _ (Qc hx0)).trans hx0;have hx0 := (qs ((w.alloc (.cells (scS s ca cc ta tc ga gc) 32)).alloc (.cells #[.int .i64 n] 3)) (.cells zA 32) _ (Qc hx0)).trans hx0;have hx1 : ((w.alloc (.cells (scS s ca cc ta tc ga gc) 32)).alloc (.cells #[.int .i64 n] 3)).heap[w.heap.size + 1]? = some (.cells #[.int .i64 n] 3 (0,0)) := by
  have h := qf (w.alloc (.cells (scS s ca cc ta tc ga gc) 32)) (.cells #[.int .i64 n] 3);have e : (w.alloc (.cells (scS s ca cc ta tc ga gc) 32)).heap.size = w.heap.size + 1 := by simp
  rw [e] at h;exact h
 have hx1 := (qs ((w.alloc (.cells (scS s ca cc ta tc ga gc) 32)).alloc (.cells #[.int .i64 n] 3)) (.cells zA 32) _ (Qc hx1)).trans hx1;have hx2 : (((w.alloc (.cells (scS s ca cc ta tc ga gc) 32)).alloc (.cells #[.int .i64 n] 3)).alloc (.cells zA 32)).heap[w.heap.size + 2]? = some (.cells zA 32 (0,0)) := by
  have h := qf ((w.alloc (.cells (scS s ca cc ta tc ga gc) 32)).alloc (.cells #[.int .i64 n] 3)) (.cells zA 32);have e : ((w.alloc (.cells (scS s ca cc ta tc ga gc) 32)).alloc (.cells #[.int .i64 n] 3)).heap.size = w.heap.size + 2 := by simp
  rw [e] at h;exact h
 have HX0 : Hid _ := hx0;have HXR : Hid _ := hx2;have HKB : Hid _ := hkb;have HC := hC _ (w.heap.size + 1) hkb (Kb hx1);have hsz : w.heap.size ≤ (((w.alloc (.cells (scS s ca cc ta tc ga gc) 32)).alloc (.cells #[.int .i64 n] 3)).alloc (.cells zA 32)).heap.size := hkb.size;clear hkb hV hC hx0 hx1 hx2;go_enter Tryz.func159,Tryz.ntmps159;go_upto_region 1 with fail
 generalize (((w.alloc (.cells (scS s ca cc ta tc ga gc) 32)).alloc (.cells #[.int .i64 n] 3)).alloc (.cells zA 32)) = X at *;go_wp2_with (refine ql rfl 32 (.tmp 2) rfl w.heap.size rfl _ _ _ _ HX0.out qu rfl (by kernel_rfl) ?_)
 refine HC.mono ?_;rintro e V ⟨cv',tv',gv',rfl,hO,c2⟩;obtain ⟨a1,n1,c1,a2,n2,c2',a3,n3,c3,rfl,rfl,rfl⟩ := hO.shapes;have HO : Hid (Qo V 0 _ s' _ _ _) := hO;have HR : Hid (V.heap[w.heap.size + 2]? = _) := Grd.carry HXR.out c2;have HB : Hid (Below w.heap.size w V) := HKB.out.trans (c2.mono HKB.out.size);clear hO c2 HC;go_wp2_with (refine qh rfl 32 (.tmp 4) (.tmp 9) rfl (w.heap.size + 2) (scT s' a1 n1 c1 a2 n2 c2' a3 n3 c3) rfl rfl _ _ HR.out (by kernel_rfl) rfl (Qm _ _ _ _ _ _ _ _ _ _) ?_)
 (try simp only [qv,qw])
 refine qk (v := .tuple #[.agg (scT s' a1 n1 c1 a2 n2 c2' a3 n3 c3),.int .i64 er]) ?_ rfl ⟨_,_,_,rfl,?_,qi HB.out (by omega) _⟩
 ·exact Grd.Qd rfl _ _ (w.heap.size + 2) _ _ _ _ rfl (qj _ _ _ _ _ _ HR.out) qu rfl (by kernel_rfl) _ rfl
 ·exact (Qo.off HO.out HR.out Ql (by omega) fun k hk => qg _ _ _ _ hk).mono hsz
theorem qe8 (s s' : Scr) (cv tv gv : Value) (n : Int) (er : Int) (w0 w : World) (hV : Zh w0 s cv tv gv) (hM : w0.heap.size ≤ w.heap.size)
  (hC : ∀ (W : World) (B1 : Nat),Below w.heap.size w W → W.cell? ⟨B1,0,none⟩ = some (.int .i64 n) → Calls qP 199 #[.agg (scrA s cv tv gv),.func (.func 200) #[] #[.pointer (some ⟨B1,0,none⟩)]] W (Made w0 W s' er)) :
  Calls qP 154 #[.agg (scrA s cv tv gv),.int .i64 n] w (Made w0 w s' er) := by
 obtain ⟨ca,cc,rfl⟩ := hV.c.shape;obtain ⟨ta,tc,rfl⟩ := hV.t.slice;obtain ⟨ga,gc,rfl⟩ := hV.g.slice;have hkb : Below w.heap.size w (((w.alloc (.cells (scS s ca cc ta tc ga gc) 32)).alloc (.cells #[.int .i64 n] 3)).alloc (.cells zA 32)) := ((((qr _ _).alloc (by simp) _).alloc (by simp) _).alloc (by simp;omega) _)
 have hx0 : (w.alloc (.cells (scS s ca cc ta tc ga gc) 32)).heap[w.heap.size]? = some (.cells (scS s ca cc ta tc ga gc) 32 (0,0)) := by
  have h := qf w (.cells (scS s ca cc ta tc ga gc) 32);have e : w.heap.size = w.heap.size := by simp
  rw [e] at h;exact h
 have hx0 := (qs (w.alloc (.cells (scS s ca cc ta tc ga gc) 32)) (.cells #[.int .i64 n] 3) _ (Qc hx0)).trans hx0;have hx0 := (qs ((w.alloc (.cells (scS s ca cc ta tc ga gc) 32)).alloc (.cells #[.int .i64 n] 3)) (.cells zA 32) _ (Qc hx0)).trans hx0;have hx1 : ((w.alloc (.cells (scS s ca cc ta tc ga gc) 32)).alloc (.cells #[.int .i64 n] 3)).heap[w.heap.size + 1]? = some (.cells #[.int .i64 n] 3 (0,0)) := by
  have h := qf (w.alloc (.cells (scS s ca cc ta tc ga gc) 32)) (.cells #[.int .i64 n] 3);have e : (w.alloc (.cells (scS s ca cc ta tc ga gc) 32)).heap.size = w.heap.size + 1 := by simp
  rw [e] at h;exact h
 have hx1 := (qs ((w.alloc (.cells (scS s ca cc ta tc ga gc) 32)).alloc (.cells #[.int .i64 n] 3)) (.cells zA 32) _ (Qc hx1)).trans hx1;have hx2 : (((w.alloc (.cells (scS s ca cc ta tc ga gc) 32)).alloc (.cells #[.int .i64 n] 3)).alloc (.cells zA 32)).heap[w.heap.size + 2]? = some (.cells zA 32 (0,0)) := by
  have h := qf ((w.alloc (.cells (scS s ca cc ta tc ga gc) 32)).alloc (.cells #[.int .i64 n] 3)) (.cells zA 32);have e : ((w.alloc (.cells (scS s ca cc ta tc ga gc) 32)).alloc (.cells #[.int .i64 n] 3)).heap.size = w.heap.size + 2 := by simp
  rw [e] at h;exact h
 have HX0 : Hid _ := hx0;have HXR : Hid _ := hx2;have HKB : Hid _ := hkb;have HC := hC _ (w.heap.size + 1) hkb (Kb hx1);have hsz : w.heap.size ≤ (((w.alloc (.cells (scS s ca cc ta tc ga gc) 32)).alloc (.cells #[.int .i64 n] 3)).alloc (.cells zA 32)).heap.size := hkb.size;clear hkb hV hC hx0 hx1 hx2;go_enter Tryz.func154,Tryz.ntmps154;go_upto_region 1 with fail
 generalize (((w.alloc (.cells (scS s ca cc ta tc ga gc) 32)).alloc (.cells #[.int .i64 n] 3)).alloc (.cells zA 32)) = X at *;go_wp2_with (refine ql rfl 32 (.tmp 2) rfl w.heap.size rfl _ _ _ _ HX0.out qu rfl (by kernel_rfl) ?_)
 refine HC.mono ?_;rintro e V ⟨cv',tv',gv',rfl,hO,c2⟩;obtain ⟨a1,n1,c1,a2,n2,c2',a3,n3,c3,rfl,rfl,rfl⟩ := hO.shapes;have HO : Hid (Qo V 0 _ s' _ _ _) := hO;have HR : Hid (V.heap[w.heap.size + 2]? = _) := Grd.carry HXR.out c2;have HB : Hid (Below w.heap.size w V) := HKB.out.trans (c2.mono HKB.out.size);clear hO c2 HC;go_wp2_with (refine qh rfl 32 (.tmp 4) (.tmp 9) rfl (w.heap.size + 2) (scT s' a1 n1 c1 a2 n2 c2' a3 n3 c3) rfl rfl _ _ HR.out (by kernel_rfl) rfl (Qm _ _ _ _ _ _ _ _ _ _) ?_)
 (try simp only [qv,qw])
 refine qk (v := .tuple #[.agg (scT s' a1 n1 c1 a2 n2 c2' a3 n3 c3),.int .i64 er]) ?_ rfl ⟨_,_,_,rfl,?_,qi HB.out (by omega) _⟩
 ·exact Grd.Qd rfl _ _ (w.heap.size + 2) _ _ _ _ rfl (qj _ _ _ _ _ _ HR.out) qu rfl (by kernel_rfl) _ rfl
 ·exact (Qo.off HO.out HR.out Ql (by omega) fun k hk => qg _ _ _ _ hk).mono hsz
theorem qdx (s s' : Scr) (cv tv gv : Value) (n : Int) (er : Int) (w0 w : World) (hV : Zh w0 s cv tv gv) (hM : w0.heap.size ≤ w.heap.size) (hk : n ≤ 2)
  (hC : ∀ (W : World) (B1 : Nat),Below w.heap.size w W → W.cell? ⟨B1,0,none⟩ = some (.int .i64 n) → Calls qP 199 #[.agg (scrA s cv tv gv),.func (.func 205) #[] #[.pointer (some ⟨B1,0,none⟩)]] W (Made w0 W s' er)) :
  Calls qP 158 #[.agg (scrA s cv tv gv),.int .i64 n] w (Made w0 w s' er) := by
 obtain ⟨ca,cc,rfl⟩ := hV.c.shape;obtain ⟨ta,tc,rfl⟩ := hV.t.slice;obtain ⟨ga,gc,rfl⟩ := hV.g.slice;have hkb : Below w.heap.size w (((w.alloc (.cells (scS s ca cc ta tc ga gc) 32)).alloc (.cells #[.int .i64 n] 3)).alloc (.cells zA 32)) := ((((qr _ _).alloc (by simp) _).alloc (by simp) _).alloc (by simp;omega) _)
 have hx0 : (w.alloc (.cells (scS s ca cc ta tc ga gc) 32)).heap[w.heap.size]? = some (.cells (scS s ca cc ta tc ga gc) 32 (0,0)) := by
  have h := qf w (.cells (scS s ca cc ta tc ga gc) 32);have e : w.heap.size = w.heap.size := by simp
  rw [e] at h;exact h
 have hx0 := (qs (w.alloc (.cells (scS s ca cc ta tc ga gc) 32)) (.cells #[.int .i64 n] 3) _ (Qc hx0)).trans hx0;have hx0 := (qs ((w.alloc (.cells (scS s ca cc ta tc ga gc) 32)).alloc (.cells #[.int .i64 n] 3)) (.cells zA 32) _ (Qc hx0)).trans hx0;have hx1 : ((w.alloc (.cells (scS s ca cc ta tc ga gc) 32)).alloc (.cells #[.int .i64 n] 3)).heap[w.heap.size + 1]? = some (.cells #[.int .i64 n] 3 (0,0)) := by
  have h := qf (w.alloc (.cells (scS s ca cc ta tc ga gc) 32)) (.cells #[.int .i64 n] 3);have e : (w.alloc (.cells (scS s ca cc ta tc ga gc) 32)).heap.size = w.heap.size + 1 := by simp
  rw [e] at h;exact h
 have hx1 := (qs ((w.alloc (.cells (scS s ca cc ta tc ga gc) 32)).alloc (.cells #[.int .i64 n] 3)) (.cells zA 32) _ (Qc hx1)).trans hx1;have hx2 : (((w.alloc (.cells (scS s ca cc ta tc ga gc) 32)).alloc (.cells #[.int .i64 n] 3)).alloc (.cells zA 32)).heap[w.heap.size + 2]? = some (.cells zA 32 (0,0)) := by
  have h := qf ((w.alloc (.cells (scS s ca cc ta tc ga gc) 32)).alloc (.cells #[.int .i64 n] 3)) (.cells zA 32);have e : ((w.alloc (.cells (scS s ca cc ta tc ga gc) 32)).alloc (.cells #[.int .i64 n] 3)).heap.size = w.heap.size + 2 := by simp
  rw [e] at h;exact h
 have HX0 : Hid _ := hx0;have HXR : Hid _ := hx2;have HKB : Hid _ := hkb;have HC := hC _ (w.heap.size + 1) hkb (Kb hx1);have hsz : w.heap.size ≤ (((w.alloc (.cells (scS s ca cc ta tc ga gc) 32)).alloc (.cells #[.int .i64 n] 3)).alloc (.cells zA 32)).heap.size := hkb.size;have q1 := Kb hx1;clear hkb hV hC hx0 hx1 hx2;go_enter Tryz.func158,Tryz.ntmps158;go_upto_region 1 with fail
 generalize (((w.alloc (.cells (scS s ca cc ta tc ga gc) 32)).alloc (.cells #[.int .i64 n] 3)).alloc (.cells zA 32)) = X at *;go_wp2_with (refine ql rfl 32 (.tmp 2) rfl w.heap.size rfl _ _ _ _ HX0.out qu rfl (by kernel_rfl) ?_)
 refine HC.mono ?_;rintro e V ⟨cv',tv',gv',rfl,hO,c2⟩;obtain ⟨a1,n1,c1,a2,n2,c2',a3,n3,c3,rfl,rfl,rfl⟩ := hO.shapes;have HO : Hid (Qo V 0 _ s' _ _ _) := hO;have HR : Hid (V.heap[w.heap.size + 2]? = _) := Grd.carry HXR.out c2;have HB : Hid (Below w.heap.size w V) := HKB.out.trans (c2.mono HKB.out.size);clear hO c2 HC;go_wp2_with (refine qh rfl 32 (.tmp 4) (.tmp 11) rfl (w.heap.size + 2) (scT s' a1 n1 c1 a2 n2 c2' a3 n3 c3) rfl rfl _ _ HR.out (by kernel_rfl) rfl (Qm _ _ _ _ _ _ _ _ _ _) ?_)
 (try simp only [qv,qw])
 refine qk (v := .tuple #[.agg (scT s' a1 n1 c1 a2 n2 c2' a3 n3 c3),.int .i64 er]) ?_ rfl ⟨_,_,_,rfl,?_,qi HB.out (by omega) _⟩
 ·exact Grd.Qd rfl _ _ (w.heap.size + 2) _ _ _ _ rfl (qj _ _ _ _ _ _ HR.out) qu rfl (by kernel_rfl) _ rfl
 ·exact (Qo.off HO.out HR.out Ql (by omega) fun k hk => qg _ _ _ _ hk).mono hsz
theorem qe3 (s s' : Scr) (cv tv gv : Value) (n : Int) (er : Int) (w0 w : World) (hV : Zh w0 s cv tv gv) (hM : w0.heap.size ≤ w.heap.size) (hk : ¬ n ≤ 2)
  (hC : ∀ (W : World) (B1 : Nat),Below w.heap.size w W → W.cell? ⟨B1,0,none⟩ = some (.int .i64 n) → Calls qP 208 #[.agg (scrA s cv tv gv),.func (.func 209) #[] #[.pointer (some ⟨B1,0,none⟩)]] W (Made w0 W s' er)) :
  Calls qP 158 #[.agg (scrA s cv tv gv),.int .i64 n] w (Made w0 w s' er) := by
 obtain ⟨ca,cc,rfl⟩ := hV.c.shape;obtain ⟨ta,tc,rfl⟩ := hV.t.slice;obtain ⟨ga,gc,rfl⟩ := hV.g.slice;have hkb : Below w.heap.size w (((w.alloc (.cells (scS s ca cc ta tc ga gc) 32)).alloc (.cells #[.int .i64 n] 3)).alloc (.cells zA 32)) := ((((qr _ _).alloc (by simp) _).alloc (by simp) _).alloc (by simp;omega) _)
 have hx0 : (w.alloc (.cells (scS s ca cc ta tc ga gc) 32)).heap[w.heap.size]? = some (.cells (scS s ca cc ta tc ga gc) 32 (0,0)) := by
  have h := qf w (.cells (scS s ca cc ta tc ga gc) 32);have e : w.heap.size = w.heap.size := by simp
  rw [e] at h;exact h
 have hx0 := (qs (w.alloc (.cells (scS s ca cc ta tc ga gc) 32)) (.cells #[.int .i64 n] 3) _ (Qc hx0)).trans hx0;have hx0 := (qs ((w.alloc (.cells (scS s ca cc ta tc ga gc) 32)).alloc (.cells #[.int .i64 n] 3)) (.cells zA 32) _ (Qc hx0)).trans hx0;have hx1 : ((w.alloc (.cells (scS s ca cc ta tc ga gc) 32)).alloc (.cells #[.int .i64 n] 3)).heap[w.heap.size + 1]? = some (.cells #[.int .i64 n] 3 (0,0)) := by
  have h := qf (w.alloc (.cells (scS s ca cc ta tc ga gc) 32)) (.cells #[.int .i64 n] 3);have e : (w.alloc (.cells (scS s ca cc ta tc ga gc) 32)).heap.size = w.heap.size + 1 := by simp
  rw [e] at h;exact h
 have hx1 := (qs ((w.alloc (.cells (scS s ca cc ta tc ga gc) 32)).alloc (.cells #[.int .i64 n] 3)) (.cells zA 32) _ (Qc hx1)).trans hx1;have hx2 : (((w.alloc (.cells (scS s ca cc ta tc ga gc) 32)).alloc (.cells #[.int .i64 n] 3)).alloc (.cells zA 32)).heap[w.heap.size + 2]? = some (.cells zA 32 (0,0)) := by
  have h := qf ((w.alloc (.cells (scS s ca cc ta tc ga gc) 32)).alloc (.cells #[.int .i64 n] 3)) (.cells zA 32);have e : ((w.alloc (.cells (scS s ca cc ta tc ga gc) 32)).alloc (.cells #[.int .i64 n] 3)).heap.size = w.heap.size + 2 := by simp
  rw [e] at h;exact h
 have HX0 : Hid _ := hx0;have HXR : Hid _ := hx2;have HKB : Hid _ := hkb;have HC := hC _ (w.heap.size + 1) hkb (Kb hx1);have hsz : w.heap.size ≤ (((w.alloc (.cells (scS s ca cc ta tc ga gc) 32)).alloc (.cells #[.int .i64 n] 3)).alloc (.cells zA 32)).heap.size := hkb.size;have q1 := Kb hx1;clear hkb hV hC hx0 hx1 hx2;go_enter Tryz.func158,Tryz.ntmps158;go_upto_region 1 with fail
 generalize (((w.alloc (.cells (scS s ca cc ta tc ga gc) 32)).alloc (.cells #[.int .i64 n] 3)).alloc (.cells zA 32)) = X at *;go_wp2_with (refine ql rfl 32 (.tmp 2) rfl w.heap.size rfl _ _ _ _ HX0.out qu rfl (by kernel_rfl) ?_)
 refine HC.mono ?_;rintro e V ⟨cv',tv',gv',rfl,hO,c2⟩;obtain ⟨a1,n1,c1,a2,n2,c2',a3,n3,c3,rfl,rfl,rfl⟩ := hO.shapes;have HO : Hid (Qo V 0 _ s' _ _ _) := hO;have HR : Hid (V.heap[w.heap.size + 2]? = _) := Grd.carry HXR.out c2;have HB : Hid (Below w.heap.size w V) := HKB.out.trans (c2.mono HKB.out.size);clear hO c2 HC;go_wp2_with (refine qh rfl 32 (.tmp 4) (.tmp 16) rfl (w.heap.size + 2) (scT s' a1 n1 c1 a2 n2 c2' a3 n3 c3) rfl rfl _ _ HR.out (by kernel_rfl) rfl (Qm _ _ _ _ _ _ _ _ _ _) ?_)
 (try simp only [qv,qw])
 refine qk (v := .tuple #[.agg (scT s' a1 n1 c1 a2 n2 c2' a3 n3 c3),.int .i64 er]) ?_ rfl ⟨_,_,_,rfl,?_,qi HB.out (by omega) _⟩
 ·exact Grd.Qd rfl _ _ (w.heap.size + 2) _ _ _ _ rfl (qj _ _ _ _ _ _ HR.out) qu rfl (by kernel_rfl) _ rfl
 ·exact (Qo.off HO.out HR.out Ql (by omega) fun k hk => qg _ _ _ _ hk).mono hsz
end Put
namespace Put
open Grd (C SliceAt Qb Qf z0 Q0 flat Qe Q8)
open Sty (Q5)
structure qbn (w0 w : World) (s : Scr) (cv tv gv : Value) : Prop where
 t : Txt.Tab w
 v : Zh w0 s cv tv gv
 b : Below w0.heap.size w0 w
 f : Fits s
theorem qbn.next {w0 w W : World} {s : Scr} {cv tv gv : Value} (h : qbn w0 w s cv tv gv) (hb : Below w.heap.size w W) : qbn w0 W s cv tv gv := ⟨Grd.Tab.next h.t hb,h.v,h.b.trans (hb.mono h.b.size),h.f⟩
theorem qcl {w0 w : World} {s s' : Scr} {cv tv gv : Value} {n hh : Nat} (h : qbn w0 w s cv tv gv) (hz : Qj s = 0) (hR : Qg s n hh) (df : FuncId) (hpl : Plain df) (caps : Array Value) (rows' : List (List C)) (cs' : List C)
  (hM : ∀ w1,Below w.heap.size w w1 → Does df caps w0.heap.size w1 s s' (Qe n s.cs hh) rows') (hO : V6 s' rows') (hcs : rows'.flatten = cs') :
  Calls qP 208 #[.agg (scrA s cv tv gv),.func (.func df) #[] caps] w (Made w0 w { s' with cs := cs' } (Qj s)) :=
 ql7 s _ cv tv gv df caps w0 w h.t h.v h.b h.f fun W hW => by
  rw [hz];exact Jl n hh s s' rows' cv tv gv df hpl caps w0 W h.v (h.b.trans (hW.mono h.b.size)) h.f hR.w hR.h hR.gz (fun w1 hw1 => hM w1 (hW.trans (hw1.mono hW.size))) hO cs' hcs
def Uh (s : Scr) : Scr := { s with late := false }
theorem qq4 (tf : FuncId) (hpl : Plain tf) (tcaps : Array Value) (B M : Nat) (w : World) (s s1 : Scr) (rows rows1 : List (List C)) (hB : w.cell? ⟨B, 0, none⟩ = some (.func (.func tf) #[] tcaps))
  (hto : Does tf tcaps M w (Uh s) s1 rows rows1) : Does 228 #[.pointer (some ⟨B,0,none⟩)] M w s s1 rows rows1 := by
 intro W p hb hS;obtain ⟨c0,c1,c3,c4,c5,c9,c10,c11,c19,f⟩ := hS.words;have f5 := f 5;have q0 := Qa hb hB;have hBl := World.block_lt_of_cell? w _ hB;have hlo := hS.lo;have hne : B ≠ p := by have : B < w.heap.size := hBl;omega
 have HS1 : Hid (ShAt 110 (W.setCell ⟨p,5,none⟩ (.bool false)) M w.heap.size p (Uh s) rows) := hS.set Qp 5 _ (fun _ _ _ _ => rfl) rfl rfl
 have HB1 : Hid (Below w.heap.size w (W.setCell ⟨p,5,none⟩ (.bool false))) := hb.setCell hlo _;have HB1' : Hid (Below w.heap.size W (W.setCell ⟨p,5,none⟩ (.bool false))) := (qr _ _).setCell hlo _;have HTO := hto _ p HB1.out HS1.out;unfold Plain at hpl;clear hS hb hB c0 c1 c3 c4 c9 c10 c11 c19 f hto;go_enter Tryz.func228,Tryz.ntmps228;go_wp2_with fail;refine HTO.mono ?_;rintro e W2 ⟨rfl,hS2,b2⟩;have HB2 : Hid (Below w.heap.size W W2) := HB1'.out.trans b2;have HS2 : Hid (ShAt 110 W2 M w.heap.size p s1 rows1) := hS2;clear HTO hS2 b2 q0 c5 f5;go_wp2_with fail;go_end0;exact ⟨rfl,HS2.out,HB2.out⟩
theorem qni : Plain 228 := by
 intro args W
 kernel_rfl
theorem rows_ok {s : Scr} {n hh : Nat} (hR : Qg s n hh) (s' : Scr) (rows' : List (List C)) (hl : rows'.length = hh) (hRR : Zo n rows') (hg : s'.gone = s.gone) : V6 s' rows' := by
 have n1 := hR.n1;have n2 := hR.n2;have h1 := hR.h1;have h2 := hR.h2;have hlen := Grd.Yb n rows' (fun i hi => (hRR i hi).1) hh (by omega)
 rw [← hl,List.take_length] at hlen;refine ⟨by omega,by omega,fun i hi e => ?_,?_,by rw [hg];have := hR.gl;omega,fun i hi => ?_⟩
 ·have := (hRR i hi).1
  rw [e] at this;simp at this;omega
 ·rw [hlen]
  have := Nat.mul_le_mul (show rows'.length ≤ 60 by omega) n2
  omega
 ·rw [hg] at hi ⊢
  have := hR.Ue i hi;omega
theorem qbl (n : Nat) (rows : List (List C)) (hr : ∀ i,i < rows.length → (rows.getD i []).length = n) (i : Nat) (hi : i < rows.length) : Grd.rowAt n rows.flatten i = rows.getD i [] := by
 have h1 := Grd.Yb n rows hr i (by omega)
 have h2 : rows.flatten = (rows.take i).flatten ++ (rows.drop i).flatten := by rw [← List.flatten_append,List.take_append_drop]
 have h3 : rows.getD i [] = rows[i] := by simp [qy,hi]
 have h4 := hr i hi;rw [h3] at h4;unfold Grd.rowAt;rw [h2,List.drop_left' h1,List.drop_eq_getElem_cons hi,List.flatten_cons,List.take_left' h4,h3]
theorem qb3 {s : Scr} {n hh : Nat} (h : Qg s n hh) (rows' : List (List C)) (hl : rows'.length = hh) (hRR : Zo n rows') : Qg { s with late := false,cs := rows'.flatten } n hh ∧ Qe n rows'.flatten hh = rows' := by
 have hlen := Grd.Yb n rows' (fun i hi => (hRR i hi).1) hh (by omega)
 rw [← hl,List.take_length,hl,Nat.mul_comm] at hlen
 have hgz : Qf n hh rows'.flatten = 0 := (Grd.Zd n hh _).2 ⟨((Grd.Zd n hh _).1 h.gz).1, hlen, fun y hy => by
  rw [qbl n rows' (fun i hi => (hRR i hi).1) y (by omega)]
  exact (hRR y (by omega)).2⟩
 refine ⟨⟨h.w,h.h,h.n1,h.n2,h.h1,h.h2,hlen,hgz,h.x0,h.x1,h.y0,h.y1,h.kx0,h.kx1,h.ky0,h.ky1,h.t0,h.t1,h.t2,h.t3,rfl,h.looks,h.tl,h.la,h.ti,h.gl,h.gr⟩,?_⟩;refine qco (by rw [Grd.Qt,hl]) fun i hi => ?_
 rw [Grd.Qt] at hi;have e2 : (Qe n rows'.flatten hh).getD i [] = Grd.rowAt n rows'.flatten i := by simp [Qe,qy,hi]
 rw [e2,qbl n rows' (fun i hi => (hRR i hi).1) i (by omega)]
theorem qbu {w0 w : World} {s : Scr} {cv tv gv : Value} {n hh : Nat} (h : qbn w0 w s cv tv gv) (hR : Qg s n hh) (tf : FuncId) (hpl : Plain tf) (tcaps : Array Value) (rows' : List (List C)) (hl : rows'.length = hh) (hRR : Zo n rows') (hz : Qj s = 0)
  (hM : ∀ w1,Below w.heap.size w w1 → Does tf tcaps w0.heap.size w1 (Uh s) (Uh s) (Qe n s.cs hh) rows') :
  Calls qP 199 #[.agg (scrA s cv tv gv),.func (.func tf) #[] tcaps] w (Made w0 w { s with late := false,cs := rows'.flatten } 0) := by
 rw [← hz];exact qm9 s _ cv tv gv tf tcaps (Qj s) w0 w h.v h.b.size fun W B hW hB => qcl (h.next hW) hz hR _ qni _ rows' rows'.flatten (fun w1 hw1 => qq4 tf hpl tcaps B _ w1 s (Uh s) _ _ (Qa hw1 hB) (hM w1 (hW.trans (hw1.mono hW.size)))) (rows_ok hR _ rows' hl hRR rfl) rfl
theorem qtc (k : Int) (B M : Nat) (w : World) (hT : Txt.Tab w) (s : Scr) (rows : List (List C)) (n y x : Nat) (hB : w.cell? ⟨B, 0, none⟩ = some (.int .i64 k)) (hw : s.w = n) (hy : s.y = y) (hx : s.x = x) (hyl : y < rows.length) (hxn : x < n) (hn1 : 1 ≤ n) (hn2 : n ≤ 120) (hR : Zo n rows) (hst : Q5 (0, s.sb, 0) = true) :
  Does 210 #[.pointer (some ⟨B,0,none⟩)] M w s s rows (rows.set y (J7 s k x n (rows.getD y []))) := by
 intro W p hb hS;have q0 := Qa hb hB;have H := qbr W M _ p s rows (Grd.Tab.next hT hb) hS n y x k hw hy hx hyl hxn hn1 hn2 hR hst;clear hS hB hw hy hx hR hst;go_enter Tryz.func210,Tryz.ntmps210;go_wp2_with fail;refine H.mono ?_;rintro e V ⟨rfl,hSV,hBV,hFV⟩;clear hFV;go_wp2_with fail;go_end0;exact ⟨rfl,hSV,hBV⟩
theorem qnq (k : Int) (B M : Nat) (w : World) (hT : Txt.Tab w) (s : Scr) (rows : List (List C)) (n hh y x : Nat) (hB : w.cell? ⟨B, 0, none⟩ = some (.int .i64 k)) (hw : s.w = n) (hh' : s.h = hh) (hy : s.y = y) (hx : s.x = x) (hrl : rows.length = hh) (hyl : y < hh) (hhl : hh ≤ 60) (hxn : x < n) (hn1 : 1 ≤ n) (hn2 : n ≤ 120) (hR : Zo n rows) (hst : Q5 (0, s.sb, 0) = true) :
  Does 205 #[.pointer (some ⟨B,0,none⟩)] M w s s rows (J8 (rows.set y (J7 s k x n (rows.getD y []))) n s.sb (Zw k y hh).1 (Zw k y hh).2 y) := by
 intro W p hb hS;have q0 := Qa hb hB;have HQ : Hid (∀ V,Below w.heap.size W V → V.cell? ⟨B,0,none⟩ = some (.int .i64 k)) := fun V h => Qa (hb.trans h) hB
 have H := qbr W M _ p s rows (Grd.Tab.next hT hb) hS n y x k hw hy hx (by omega) hxn hn1 hn2 hR hst
 have hl : (J7 s k x n (rows.getD y [])).length = n := by unfold J7;rw [qar];exact (hR y (by omega)).1
 have hr2 : Zo n (rows.set y (J7 s k x n (rows.getD y []))) := hR.set y _ hl (Fx _ _ _ _ (hR y (by omega)).2 hst)
 have H2 : Hid (∀ V,Below w.heap.size W V → ShAt 110 V M w.heap.size p s (rows.set y (J7 s k x n (rows.getD y []))) → Calls qP 207 #[.pointer (some ⟨p,0,none⟩),.int .i64 k] V (Ran V M w.heap.size p s (J8 (rows.set y (J7 s k x n (rows.getD y []))) n s.sb (Zw k y hh).1 (Zw k y hh).2 y))) := fun V hV hS2 => qh7 V M _ p s _ ((Grd.Tab.next hT hb).below hV hT.pos) hT.pos hS2 n hh y k hw hh' hy (by rw [List.length_set];exact hrl) hyl hhl hn1 hn2 hr2 hst
 clear hS hB hw hy hx hR hst hr2 hl hT;generalize J8 (rows.set y (J7 s k x n (rows.getD y []))) n s.sb (Zw k y hh).1 (Zw k y hh).2 y = rows2 at *;generalize rows.set y (J7 s k x n (rows.getD y [])) = rows1 at *;go_enter Tryz.func205,Tryz.ntmps205;go_wp2_with fail;refine H.mono ?_;rintro e V ⟨rfl,hSV,hBV,hFV⟩;have q1 := HQ.out V hBV;have H3 := H2.out V hBV hSV;have HBV : Hid (Below w.heap.size W V) := hBV;clear hFV hSV hBV q0 H;go_wp2_with fail;refine H3.mono ?_;rintro e V2 ⟨rfl,hSV,hBV,hFV⟩;have HSV : Hid _ := hSV;have HB2 : Hid (Below w.heap.size W V2) := HBV.out.trans hBV;clear hFV hSV hBV q1 H3;go_wp2_with fail;go_end0;exact ⟨rfl,HSV.out,HB2.out⟩
theorem qll : Plain 210 := by
 intro args W
 kernel_rfl
theorem qh1 : Plain 205 := by
 intro args W
 kernel_rfl
def qd9 (s : Scr) (k : Int) (n hh : Nat) : List (List C) := (Qe n s.cs hh).set s.y.toNat (J7 s k s.x.toNat n ((Qe n s.cs hh).getD s.y.toNat []))
def F4 (s : Scr) (k : Int) (n hh : Nat) : List (List C) := J8 (qd9 s k n hh) n s.sb (Zw k s.y.toNat hh).1 (Zw k s.y.toNat hh).2 s.y.toNat
theorem Uf {s : Scr} {n hh : Nat} (hR : Qg s n hh) (k : Int) : (qd9 s k n hh).length = hh ∧ Zo n (qd9 s k n hh) := by
 have y0 := hR.y0;have y1 := hR.y1;have h0 := Vp hR;have hl : s.y.toNat < (Qe n s.cs hh).length := by rw [Grd.Qt];omega
 refine ⟨by unfold qd9;rw [List.length_set,Grd.Qt],?_⟩
 unfold qd9;exact h0.set _ _ (by unfold J7;rw [qar];exact (h0 _ hl).1) (Fx _ _ _ _ (h0 _ hl).2 (V8 hR))
theorem Ut {s : Scr} {n hh : Nat} (hR : Qg s n hh) (k : Int) : (F4 s k n hh).length = hh ∧ Zo n (F4 s k n hh) := by
 obtain ⟨h1,h2⟩ := Uf hR k;exact ⟨by unfold F4;rw [Zp];exact h1,Vt _ _ _ _ _ _ h2 (V8 hR)⟩
theorem qoo {w0 w : World} {s : Scr} {cv tv gv : Value} {n hh : Nat} (h : qbn w0 w s cv tv gv) (hR : Qg s n hh) (hz : Qj s = 0) (k : Int) : Calls qP 159 #[.agg (scrA s cv tv gv),.int .i64 k] w (Made w0 w { s with late := false,cs := (qd9 s k n hh).flatten } 0) := by
 have x0 := hR.x0;have x1 := hR.x1;have y0 := hR.y0;have y1 := hR.y1;have hbs := V8 hR;obtain ⟨h1,h2⟩ := Uf hR k;exact qfx s _ cv tv gv k 0 w0 w h.v h.b.size fun W B hW hB => qbu (h.next hW) hR _ qll _ (qd9 s k n hh) h1 h2 hz fun w1 hw1 => qtc k B _ w1 (Grd.Tab.next h.t (hW.trans (hw1.mono hW.size))) (Uh s) _ n s.y.toNat s.x.toNat (Qa hw1 hB) hR.w (by show s.y = _;omega) (by show s.x = _;omega) (by rw [Grd.Qt];omega) (by omega) hR.n1 hR.n2 (Vp hR) hbs
theorem qle {w0 w : World} {s : Scr} {cv tv gv : Value} {n hh : Nat} (h : qbn w0 w s cv tv gv) (hR : Qg s n hh) (hz : Qj s = 0) (k : Int) (hk : k ≤ 2) : Calls qP 158 #[.agg (scrA s cv tv gv),.int .i64 k] w (Made w0 w { s with late := false,cs := (F4 s k n hh).flatten } 0) := by
 have x0 := hR.x0;have x1 := hR.x1;have y0 := hR.y0;have y1 := hR.y1;have hbs := V8 hR;obtain ⟨h1,h2⟩ := Ut hR k;exact qdx s _ cv tv gv k 0 w0 w h.v h.b.size hk fun W B hW hB => qbu (h.next hW) hR _ qh1 _ (F4 s k n hh) h1 h2 hz fun w1 hw1 => qnq k B _ w1 (Grd.Tab.next h.t (hW.trans (hw1.mono hW.size))) (Uh s) _ n hh s.y.toNat s.x.toNat (Qa hw1 hB) hR.w hR.h (by show s.y = _;omega) (by show s.x = _;omega) (Grd.Qt _ _ _) (by omega) hR.h2 (by omega) hR.n1 hR.n2 (Vp hR) hbs
def Y7 (k : Int) (x n : Nat) : Nat := x + (min (max k 1) ((n : Int) - x)).toNat
theorem ql9 (k : Int) (x n : Nat) (hx : x < n) : Y7 k x n ≤ n ∧ x ≤ Y7 k x n := by unfold Y7;omega
theorem qov (k : Int) (B M : Nat) (w : World) (hT : Txt.Tab w) (s : Scr) (rows : List (List C)) (n y x : Nat) (hB : w.cell? ⟨B, 0, none⟩ = some (.int .i64 k)) (hw : s.w = n) (hy : s.y = y) (hx : s.x = x) (hyl : y < rows.length) (hxn : x < n) (hn1 : 1 ≤ n) (hn2 : n ≤ 120) (hR : Zo n rows) (hst : Q5 (0, s.sb, 0) = true) :
  Does 200 #[.pointer (some ⟨B,0,none⟩)] M w s s rows (rows.set y (Jb s.sb (rows.getD y []) x (Y7 k x n))) := by
 intro W p hb hS;have hce := ql9 k x n hxn;obtain ⟨mm,hmm⟩ : ∃ mm : Nat,mm = (min (max k 1) ((n : Int) - x)).toNat := ⟨_,rfl⟩;have hmi : min (max k 1) ((n : Int) - (x : Int)) = (mm : Int) := by omega
 have hm1 := Grd.max2 k 1;have hm2 := Grd.min2 (max k 1) ((n : Int) - (x : Int));rw [hmi] at hm2;have hmb : mm ≤ 120 := by omega
 have hw1 : IntKind.i64.wrap ((n : Int) - (x : Int)) = (n : Int) - (x : Int) := Zl _ (by omega) (by omega)
 have hw2 : IntKind.i64.wrap ((x : Int) + (mm : Int)) = (x : Int) + (mm : Int) := Zl _ (by omega) (by omega)
 have HCL : Hid (∀ V,Below W.heap.size W V → Calls qP 201 #[.pointer (some ⟨p,0,none⟩),.int .i64 (y : Int),.int .i64 (x : Int),.int .i64 ((x : Int) + (mm : Int))] V (Ran V M w.heap.size p s (rows.set y (Jb s.sb (rows.getD y []) x (Y7 k x n))))) := fun V hV => by
  have h := qd1 V M _ p s rows (Grd.Tab.next hT (hb.trans (hV.mono hb.size))) (hS.next hV) n y x (Y7 k x n) hyl _ rfl hn1 hn2 (hR y hyl).1 (qju n _ hn1 hn2 (hR y hyl).1 (hR y hyl).2) hst (by omega) hce.1
  rw [show ((Y7 k x n : Nat) : Int) = (x : Int) + (mm : Int) by unfold Y7;omega] at h
  exact h
 have q0 := Qa hb hB;have hBl := World.block_lt_of_cell? w _ hB;obtain ⟨c0,c1,c3,c4,c5,c9,c10,c11,c19,f⟩ := hS.words;have HWD : Hid (∀ V rows',ShAt 110 V M w.heap.size p s rows' → Below w.heap.size W V → V.cell? ⟨p,4,none⟩ = some (.int .i64 (y : Int)) ∧ V.cell? ⟨p,3,none⟩ = some (.int .i64 (x : Int)) ∧ V.cell? ⟨p,0,none⟩ = some (.int .i64 (n : Int)) ∧ V.cell? ⟨B,0,none⟩ = some (.int .i64 k)) := fun V rows' hS' hb' => by
  obtain ⟨c0,c1,c3,c4,-⟩ := hS'.words;rw [hw] at c0;rw [hx] at c3;rw [hy] at c4;exact ⟨c4,c3,c0,(hb'.cell (p := ⟨B,0,none⟩) hBl).trans q0⟩
 have s0 := HWD.out W.drew rows (hS.next ((qr _ _).drew)) ((qr _ _).drew);clear c0 c1 c3 c4 c5 c9 c10 c11 c19 f hS hb hB hw hx hy hR hst hmm hmi hce q0;generalize max k 1 = mx at *;generalize rows.set y (Jb s.sb (rows.getD y []) x (Y7 k x n)) = rows' at *;go_enter Tryz.func200,Tryz.ntmps200;go_upto_region 0 with fail
 go_region_held3 (fun w' => w'.cell? ⟨p, 4, none⟩ = some (.int .i64 (y : Int)) ∧ w'.cell? ⟨p, 3, none⟩ = some (.int .i64 (x : Int)) ∧ w'.cell? ⟨p, 0, none⟩ = some (.int .i64 (n : Int)) ∧ w'.cell? ⟨B, 0, none⟩ = some (.int .i64 k))
  (first | exact s2 | exact s0)
  (first | (go_at_call 201;refine (HCL.out _ ((qr _ _).drew)).mono ?_;rintro e V ⟨rfl,hSV,hBV,hFV⟩;have hb2 := (((qr w.heap.size W).drew).trans hBV);have s2 := HWD.out V _ hSV hb2;have HSV : Hid _ := hSV;have HB2 : Hid _ := hb2;clear hSV hBV hFV hb2))
 go_wp2_with fail;go_end0;exact ⟨rfl,HSV.out,HB2.out⟩
theorem qlg : Plain 200 := by
 intro args W
 kernel_rfl
def qbx (s : Scr) (k : Int) (n hh : Nat) : List (List C) := (Qe n s.cs hh).set s.y.toNat (Jb s.sb ((Qe n s.cs hh).getD s.y.toNat []) s.x.toNat (Y7 k s.x.toNat n))
theorem F7 {s : Scr} {n hh : Nat} (hR : Qg s n hh) (k : Int) : (qbx s k n hh).length = hh ∧ Zo n (qbx s k n hh) := by
 have y0 := hR.y0;have y1 := hR.y1;have h0 := Vp hR;have hl : s.y.toNat < (Qe n s.cs hh).length := by rw [Grd.Qt];omega
 refine ⟨by unfold qbx;rw [List.length_set,Grd.Qt],?_⟩
 unfold qbx;exact h0.set _ _ (by rw [qar];exact (h0 _ hl).1) (Fx _ _ _ _ (h0 _ hl).2 (V8 hR))
theorem qob {w0 w : World} {s : Scr} {cv tv gv : Value} {n hh : Nat} (h : qbn w0 w s cv tv gv) (hR : Qg s n hh) (hz : Qj s = 0) (k : Int) : Calls qP 154 #[.agg (scrA s cv tv gv),.int .i64 k] w (Made w0 w { s with late := false,cs := (qbx s k n hh).flatten } 0) := by
 have x0 := hR.x0;have x1 := hR.x1;have y0 := hR.y0;have y1 := hR.y1;have hbs := V8 hR;obtain ⟨h1,h2⟩ := F7 hR k;exact qe8 s _ cv tv gv k 0 w0 w h.v h.b.size fun W B hW hB => qbu (h.next hW) hR _ qlg _ (qbx s k n hh) h1 h2 hz fun w1 hw1 => qov k B _ w1 (Grd.Tab.next h.t (hW.trans (hw1.mono hW.size))) (Uh s) _ n s.y.toNat s.x.toNat (Qa hw1 hB) hR.w (by show s.y = _;omega) (by show s.x = _;omega) (by rw [Grd.Qt];omega) (by omega) hR.n1 hR.n2 (Vp hR) hbs
theorem ShA.q1x {t : TypeId} (ht : X6 t) {W : World} {M N p : Nat} {s : Scr} {rows : List (List C)} {cv tv gv rv : Value} {gvs vs : List Value} (h : ShA t W M N p s rows cv tv gv rv gvs vs) : ShA t (W.setCell ⟨p,21,none⟩ (.slice none 0 0)) M N p { s with gone := [] } rows cv tv (.slice none 0 0) rv [] vs := by
 have hk : Kept M W (W.setCell ⟨p,21,none⟩ (.slice none 0 0)) := Kept.store h.blk ht.2.2 (Nat.le_trans h.ml h.lo);exact ⟨X9 h.blk rfl,h.lo,h.ml,h.cvs,Z5 h.tabs h.blk ht.1,World.ownsRow_nil _ _ _ _,⟨rfl,fun i hi => absurd hi (by simp)⟩,Z5 h.rws h.blk ht.2.1,h.rin.keep hk,fun k _ h2 => by cases h2⟩
theorem qj7 (k : Int) (B M : Nat) (w : World) (s : Scr) (rows : List (List C)) (hB : w.cell? ⟨B,0,none⟩ = some (.int .i64 k)) : Does 209 #[.pointer (some ⟨B,0,none⟩)] M w s (if k = 3 then { s with gone := [] } else s) rows rows := by
 intro W p hb hS;have q0 := Qa hb hB
 by_cases hk : k = 3
 ·rw [if_pos hk]
  obtain ⟨cv,tv,gv,rv,gvs,vs,hA⟩ := hS;obtain ⟨-,⟨-,-,-,-,-,-,-,-,-,-,c21,-⟩,f⟩ := Qr hA.blk;have f21 := f 21;have HE : Hid (ShAt 110 (W.setCell ⟨p,21,none⟩ (.slice none 0 0)) M w.heap.size p { s with gone := [] } rows ∧ Below w.heap.size W (W.setCell ⟨p,21,none⟩ (.slice none 0 0))) := ⟨⟨_,_,_,_,_,_,hA.q1x Qp⟩,(qr _ _).setCell hA.lo _⟩
  clear hA hb hB f;subst hk;go_enter Tryz.func209,Tryz.ntmps209;go_wp2_with fail;go_end0;exact ⟨rfl,HE.out⟩
 ·rw [if_neg hk]
  have hkb : (k == 3) = false := by rw [beq_eq_false_iff_ne];exact hk
  have HS : Hid (ShAt 110 W M w.heap.size p s rows) := hS;clear hb hB hS hk;go_enter Tryz.func209,Tryz.ntmps209;go_wp2_with fail;go_end0;exact ⟨rfl,HS.out,qr _ _⟩
theorem qgi : Plain 209 := by
 intro args W
 kernel_rfl
theorem qkp {w0 w : World} {s : Scr} {cv tv gv : Value} {n hh : Nat} (h : qbn w0 w s cv tv gv) (hR : Qg s n hh) (hz : Qj s = 0) (k : Int) (hk : ¬ k ≤ 2) : Calls qP 158 #[.agg (scrA s cv tv gv),.int .i64 k] w (Made w0 w { (if k = 3 then { s with gone := [] } else s) with cs := s.cs } 0) := by
 have hO : V6 (if k = 3 then { s with gone := [] } else s) (Qe n s.cs hh) := by
  have h1 := hR.rows (s' := s) rfl;split
  ·exact ⟨h1.r1,h1.r2,h1.ne,h1.cl,by simp,fun i hi => absurd hi (by simp)⟩
  ·exact h1
 exact qe3 s _ cv tv gv k 0 w0 w h.v h.b.size hk fun W B hW hB => by
  have h2 := qcl (h.next hW) hz hR _ qgi #[.pointer (some ⟨B,0,none⟩)] (Qe n s.cs hh) s.cs (fun w1 hw1 => qj7 k B w0.heap.size w1 s _ (Qa hw1 hB)) hO hR.flatten
  rw [hz] at h2;exact h2
end Put
namespace Put
open Grd (C SliceAt Qb Qf z0 Q0 flat Qe)
theorem q1l {w V : World} {s : Scr} {cv tv gv : Value} {A : Array Value} {t t' : TypeId} (hb : Below w.heap.size w V) (h0 : V.heap[w.heap.size]? = some (.cells (scrA s cv tv gv) t (0, 0))) (h1 : V.heap[w.heap.size + 1]? = some (.cells A t' (0, 0))) {s' : Scr} {cv' tv' gv' : Value} :
  Below w.heap.size w (V.setRow (w.heap.size + 1) (scrA s' cv' tv' gv')) ∧ Zj (V.setRow (w.heap.size + 1) (scrA s' cv' tv' gv')) (.pointer (some ⟨w.heap.size,0,none⟩)) ∧ Z7 (V.setRow (w.heap.size + 1) (scrA s' cv' tv' gv')) (.pointer (some ⟨w.heap.size,0,none⟩)) = scrA s cv tv gv ∧ Zc (V.setRow (w.heap.size + 1) (scrA s' cv' tv' gv')) (.pointer (some ⟨w.heap.size + 1,0,none⟩)) := by
 have h2 : (V.setRow (w.heap.size + 1) (scrA s' cv' tv' gv')).heap[w.heap.size]? = _ := (qg _ _ _ _ (by omega)).trans h0
 have h3 := qj V (w.heap.size + 1) A (scrA s' cv' tv' gv') t' _ h1;exact ⟨qi hb (by omega) _,(Qs h2).1,(Qs h2).2,Zb h3 rfl⟩
section
attribute [local go_sem ↓] Xp Jg
attribute [local go_sem] G7 Xx Xy
theorem qky (s s' : Scr) (cv tv gv : Value) (df : FuncId) (caps : Array Value) (w0 w : World) (hT : Txt.Tab w) (hV : Zh w0 s cv tv gv) (hb0 : Below w0.heap.size w0 w) (hF : Fits s)
  (hCH : ∀ W,Below w.heap.size w W → Calls qP 35 #[.agg (scrA s cv tv gv),.int .i64 (Qj s),.func (.func df) #[] caps] W (Made w0 W s' (Qj s))) :
  Calls qP 132 #[.agg (scrA s cv tv gv),.func (.func df) #[] caps] w (Made w0 w s' (Qj s)) := by
 obtain ⟨ca,cc,rfl⟩ := hV.c.shape;obtain ⟨ta,tc,rfl⟩ := hV.t.slice;obtain ⟨ga,gc,rfl⟩ := hV.g.slice;have hx0 : ((w.alloc (.cells (scS s ca cc ta tc ga gc) 32)).alloc (.cells zA 32)).heap[w.heap.size]? = some (.cells (scS s ca cc ta tc ga gc) 32 (0,0)) := (qs _ _ _ (by simp)).trans (qf _ _)
 have hx1 : ((w.alloc (.cells (scS s ca cc ta tc ga gc) 32)).alloc (.cells zA 32)).heap[w.heap.size + 1]? = some (.cells zA 32 (0,0)) := heap_alloc2_new w _ _;have hkb : Below w.heap.size w ((w.alloc (.cells (scS s ca cc ta tc ga gc) 32)).alloc (.cells zA 32)) := ((qr _ _).alloc (qd _) _).alloc (by simp) _
 have hsz : ((w.alloc (.cells (scS s ca cc ta tc ga gc) 32)).alloc (.cells zA 32)).heap.size = w.heap.size + 2 := by simp
 have HX0 : Hid _ := hx0;have HX1 : Hid _ := hx1;have HKB : Hid _ := hkb;have HSZ : Hid _ := hsz;have HCK : Hid (∀ W,Below w.heap.size w W → Calls qP 6 #[.agg (scS s ca cc ta tc ga gc)] W fun e w' => e = .returned (.int .i64 (Qj s)) ∧ Below W.heap.size W w') := fun W hW => Zt s _ _ _ W (Grd.Tab.next hT hW) (hV.next (hb0.trans (hW.mono hb0.size))) hF
 have HCH : Hid (∀ W,Below w.heap.size w W → Calls qP 35 #[.agg (scS s ca cc ta tc ga gc),.int .i64 (Qj s),.func (.func df) #[] caps] W (Made w0 W s' (Qj s))) := hCH;have hM := hb0.size;clear hx0 hx1 hkb hV hF hT hCH hb0 hsz;generalize Qj s = er at *;go_enter Tryz.func132,Tryz.ntmps132;go_upto_region 1 with fail
 generalize ((w.alloc (.cells (scS s ca cc ta tc ga gc) 32)).alloc (.cells zA 32)) = X at *;have SK : Hid (∀ w',Below X.heap.size X w' → Below w.heap.size w w' ∧ Zj w' (.pointer (some ⟨w.heap.size,0,none⟩)) ∧ Z7 w' (.pointer (some ⟨w.heap.size,0,none⟩)) = (scS s ca cc ta tc ga gc) ∧ Zc w' (.pointer (some ⟨w.heap.size + 1,0,none⟩))) := fun w' hb => by
  have h0 := Grd.carry HX0.out hb;exact ⟨HKB.out.trans (hb.mono HKB.out.size),(Qs h0).1,(Qs h0).2,Zb (Grd.carry HX1.out hb) rfl⟩
 have b0 : Below X.heap.size X X.drew := (qr _ _).drew
 go_region_held3 (fun w' => Below w.heap.size w w' ∧ Zj w' (.pointer (some ⟨w.heap.size, 0, none⟩)) ∧ Z7 w' (.pointer (some ⟨w.heap.size, 0, none⟩)) = (scS s ca cc ta tc ga gc) ∧ Zc w' (.pointer (some ⟨w.heap.size + 1, 0, none⟩)))
  (first | exact KF.out | exact SK.out _ b2 | exact SK.out _ b1 | exact SK.out _ b0)
  (first | (go_at_call 6;refine (HCK.out _ (SK.out _ b0).1).mono ?_;rintro e V1 ⟨rfl,c1⟩;have b1 := b0.trans (c1.mono b0.size);clear c1) | (go_at_call 35;refine (HCH.out _ (SK.out _ b1).1).mono ?_;rintro e V2 ⟨cv',tv',gv',rfl,hO,c2⟩;have b2 := b1.trans (c2.mono b1.size);obtain ⟨a1,n1,c1,a2,n2,c2',a3,n3,c3,rfl,rfl,rfl⟩ := hO.shapes;have HO : Hid (Qo V2 0 _ s' _ _ _) := hO;clear c2 hO;have HR : Hid (V2.heap[w.heap.size + 1]? = _) := Grd.carry HX1.out b2;have KF : Hid (Below w.heap.size w (V2.setRow (w.heap.size + 1) (scT s' a1 n1 c1 a2 n2 c2' a3 n3 c3)) ∧ Zj (V2.setRow (w.heap.size + 1) (scT s' a1 n1 c1 a2 n2 c2' a3 n3 c3)) (.pointer (some ⟨w.heap.size,0,none⟩)) ∧ Z7 (V2.setRow (w.heap.size + 1) (scT s' a1 n1 c1 a2 n2 c2' a3 n3 c3)) (.pointer (some ⟨w.heap.size,0,none⟩)) = (scS s ca cc ta tc ga gc) ∧ Zc (V2.setRow (w.heap.size + 1) (scT s' a1 n1 c1 a2 n2 c2' a3 n3 c3)) (.pointer (some ⟨w.heap.size + 1,0,none⟩))) := q1l (SK.out _ b2).1 (Grd.carry HX0.out b2) HR.out))
 go_wp2_with fail
 (try simp only [qv,qw])
 refine qk (v := .tuple #[.agg (scT s' a1 n1 c1 a2 n2 c2' a3 n3 c3),.int .i64 er]) ?_ rfl ⟨_,_,_,rfl,?_,KF.out.1⟩
 ·exact Grd.Qd rfl _ _ (w.heap.size + 1) _ _ _ _ rfl (qj _ _ _ _ _ _ HR.out) qu rfl (by kernel_rfl) _ rfl
 ·exact (Qo.off HO.out HR.out Ql (by omega) fun k hk => qg _ _ _ _ hk).mono (SK.out _ b1).1.size
end
end Put
namespace Put
open Grd (C)
theorem qbi {W : World} {R : Nat} {v : Value} {t : TypeId} (h : W.heap[R]? = some (.cells #[v] t (0,0))) : W.cell? ⟨R,0,none⟩ = some v := by simp [World.cell?,h]
theorem qha (s s' : Scr) (cv tv gv : Value) (er : Int) (w0 w : World) (hV : Zh w0 s cv tv gv) (hM : w0.heap.size ≤ w.heap.size)
  (hC : ∀ (W : World) (_B : Nat),Below w.heap.size w W → Calls qP 132 #[.agg (scrA s cv tv gv),.func (.func 133) #[] #[]] W (Made w0 W s' er)) :
  Calls qP 92 #[.agg (scrA s cv tv gv)] w (Made w0 w s' er) := by
 obtain ⟨ca,cc,rfl⟩ := hV.c.shape;obtain ⟨ta,tc,rfl⟩ := hV.t.slice;obtain ⟨ga,gc,rfl⟩ := hV.g.slice;have hkb : Below w.heap.size w ((w.alloc (.cells (scS s ca cc ta tc ga gc) 32)).alloc (.cells zA 32)) := (((qr _ _).alloc (by simp) _).alloc (by simp) _)
 have hx0 : (w.alloc (.cells (scS s ca cc ta tc ga gc) 32)).heap[w.heap.size]? = some (.cells (scS s ca cc ta tc ga gc) 32 (0,0)) := by
  have h := qf w (.cells (scS s ca cc ta tc ga gc) 32);have e : w.heap.size = w.heap.size := by simp
  rw [e] at h;exact h
 have hx0 := (qs (w.alloc (.cells (scS s ca cc ta tc ga gc) 32)) (.cells zA 32) _ (Qc hx0)).trans hx0;have hx1 : ((w.alloc (.cells (scS s ca cc ta tc ga gc) 32)).alloc (.cells zA 32)).heap[w.heap.size + 1]? = some (.cells zA 32 (0,0)) := by
  have h := qf (w.alloc (.cells (scS s ca cc ta tc ga gc) 32)) (.cells zA 32);have e : (w.alloc (.cells (scS s ca cc ta tc ga gc) 32)).heap.size = w.heap.size + 1 := by simp
  rw [e] at h;exact h
 have HX0 : Hid _ := hx0;have HXR : Hid _ := hx1;have HKB : Hid _ := hkb;have HC := hC _ 0 hkb;have hsz : w.heap.size ≤ ((w.alloc (.cells (scS s ca cc ta tc ga gc) 32)).alloc (.cells zA 32)).heap.size := hkb.size;clear hkb hV hC hx0 hx1;go_enter Tryz.func92,Tryz.ntmps92;go_upto_region 1 with fail
 generalize ((w.alloc (.cells (scS s ca cc ta tc ga gc) 32)).alloc (.cells zA 32)) = X at *;go_wp2_with (refine ql rfl 32 (.tmp 1) rfl w.heap.size rfl _ _ _ _ HX0.out qu rfl (by kernel_rfl) ?_)
 refine HC.mono ?_;rintro e V ⟨cv',tv',gv',rfl,hO,c2⟩;obtain ⟨a1,n1,c1,a2,n2,c2',a3,n3,c3,rfl,rfl,rfl⟩ := hO.shapes;have HO : Hid (Qo V 0 _ s' _ _ _) := hO;have HR : Hid (V.heap[w.heap.size + 1]? = _) := Grd.carry HXR.out c2;have HB : Hid (Below w.heap.size w V) := HKB.out.trans (c2.mono HKB.out.size);clear hO c2 HC;go_wp2_with (refine qh rfl 32 (.tmp 2) (.tmp 6) rfl (w.heap.size + 1) (scT s' a1 n1 c1 a2 n2 c2' a3 n3 c3) rfl rfl _ _ HR.out (by kernel_rfl) rfl (Qm _ _ _ _ _ _ _ _ _ _) ?_)
 (try simp only [qv,qw])
 refine qk (v := .tuple #[.agg (scT s' a1 n1 c1 a2 n2 c2' a3 n3 c3),.int .i64 er]) ?_ rfl ⟨_,_,_,rfl,?_,qi HB.out (by omega) _⟩
 ·exact Grd.Qd rfl _ _ (w.heap.size + 1) _ _ _ _ rfl (qj _ _ _ _ _ _ HR.out) qu rfl (by kernel_rfl) _ rfl
 ·exact (Qo.off HO.out HR.out Ql (by omega) fun k hk => qg _ _ _ _ hk).mono hsz
theorem qcr (s s' : Scr) (cv tv gv : Value) (er : Int) (w0 w : World) (hV : Zh w0 s cv tv gv) (hM : w0.heap.size ≤ w.heap.size)
  (hC : ∀ (W : World) (_B : Nat),Below w.heap.size w W → Calls qP 132 #[.agg (scrA s cv tv gv),.func (.func 134) #[] #[]] W (Made w0 W s' er)) :
  Calls qP 93 #[.agg (scrA s cv tv gv)] w (Made w0 w s' er) := by
 obtain ⟨ca,cc,rfl⟩ := hV.c.shape;obtain ⟨ta,tc,rfl⟩ := hV.t.slice;obtain ⟨ga,gc,rfl⟩ := hV.g.slice;have hkb : Below w.heap.size w ((w.alloc (.cells (scS s ca cc ta tc ga gc) 32)).alloc (.cells zA 32)) := (((qr _ _).alloc (by simp) _).alloc (by simp) _)
 have hx0 : (w.alloc (.cells (scS s ca cc ta tc ga gc) 32)).heap[w.heap.size]? = some (.cells (scS s ca cc ta tc ga gc) 32 (0,0)) := by
  have h := qf w (.cells (scS s ca cc ta tc ga gc) 32);have e : w.heap.size = w.heap.size := by simp
  rw [e] at h;exact h
 have hx0 := (qs (w.alloc (.cells (scS s ca cc ta tc ga gc) 32)) (.cells zA 32) _ (Qc hx0)).trans hx0;have hx1 : ((w.alloc (.cells (scS s ca cc ta tc ga gc) 32)).alloc (.cells zA 32)).heap[w.heap.size + 1]? = some (.cells zA 32 (0,0)) := by
  have h := qf (w.alloc (.cells (scS s ca cc ta tc ga gc) 32)) (.cells zA 32);have e : (w.alloc (.cells (scS s ca cc ta tc ga gc) 32)).heap.size = w.heap.size + 1 := by simp
  rw [e] at h;exact h
 have HX0 : Hid _ := hx0;have HXR : Hid _ := hx1;have HKB : Hid _ := hkb;have HC := hC _ 0 hkb;have hsz : w.heap.size ≤ ((w.alloc (.cells (scS s ca cc ta tc ga gc) 32)).alloc (.cells zA 32)).heap.size := hkb.size;clear hkb hV hC hx0 hx1;go_enter Tryz.func93,Tryz.ntmps93;go_upto_region 1 with fail
 generalize ((w.alloc (.cells (scS s ca cc ta tc ga gc) 32)).alloc (.cells zA 32)) = X at *;go_wp2_with (refine ql rfl 32 (.tmp 1) rfl w.heap.size rfl _ _ _ _ HX0.out qu rfl (by kernel_rfl) ?_)
 refine HC.mono ?_;rintro e V ⟨cv',tv',gv',rfl,hO,c2⟩;obtain ⟨a1,n1,c1,a2,n2,c2',a3,n3,c3,rfl,rfl,rfl⟩ := hO.shapes;have HO : Hid (Qo V 0 _ s' _ _ _) := hO;have HR : Hid (V.heap[w.heap.size + 1]? = _) := Grd.carry HXR.out c2;have HB : Hid (Below w.heap.size w V) := HKB.out.trans (c2.mono HKB.out.size);clear hO c2 HC;go_wp2_with (refine qh rfl 32 (.tmp 2) (.tmp 6) rfl (w.heap.size + 1) (scT s' a1 n1 c1 a2 n2 c2' a3 n3 c3) rfl rfl _ _ HR.out (by kernel_rfl) rfl (Qm _ _ _ _ _ _ _ _ _ _) ?_)
 (try simp only [qv,qw])
 refine qk (v := .tuple #[.agg (scT s' a1 n1 c1 a2 n2 c2' a3 n3 c3),.int .i64 er]) ?_ rfl ⟨_,_,_,rfl,?_,qi HB.out (by omega) _⟩
 ·exact Grd.Qd rfl _ _ (w.heap.size + 1) _ _ _ _ rfl (qj _ _ _ _ _ _ HR.out) qu rfl (by kernel_rfl) _ rfl
 ·exact (Qo.off HO.out HR.out Ql (by omega) fun k hk => qg _ _ _ _ hk).mono hsz
theorem qe6 (s s' : Scr) (cv tv gv : Value) (er : Int) (w0 w : World) (hV : Zh w0 s cv tv gv) (hM : w0.heap.size ≤ w.heap.size)
  (hC : ∀ (W : World) (_B : Nat),Below w.heap.size w W → Calls qP 132 #[.agg (scrA s cv tv gv),.func (.func 139) #[] #[]] W (Made w0 W s' er)) :
  Calls qP 96 #[.agg (scrA s cv tv gv)] w (Made w0 w s' er) := by
 obtain ⟨ca,cc,rfl⟩ := hV.c.shape;obtain ⟨ta,tc,rfl⟩ := hV.t.slice;obtain ⟨ga,gc,rfl⟩ := hV.g.slice;have hkb : Below w.heap.size w ((w.alloc (.cells (scS s ca cc ta tc ga gc) 32)).alloc (.cells zA 32)) := (((qr _ _).alloc (by simp) _).alloc (by simp) _)
 have hx0 : (w.alloc (.cells (scS s ca cc ta tc ga gc) 32)).heap[w.heap.size]? = some (.cells (scS s ca cc ta tc ga gc) 32 (0,0)) := by
  have h := qf w (.cells (scS s ca cc ta tc ga gc) 32);have e : w.heap.size = w.heap.size := by simp
  rw [e] at h;exact h
 have hx0 := (qs (w.alloc (.cells (scS s ca cc ta tc ga gc) 32)) (.cells zA 32) _ (Qc hx0)).trans hx0;have hx1 : ((w.alloc (.cells (scS s ca cc ta tc ga gc) 32)).alloc (.cells zA 32)).heap[w.heap.size + 1]? = some (.cells zA 32 (0,0)) := by
  have h := qf (w.alloc (.cells (scS s ca cc ta tc ga gc) 32)) (.cells zA 32);have e : (w.alloc (.cells (scS s ca cc ta tc ga gc) 32)).heap.size = w.heap.size + 1 := by simp
  rw [e] at h;exact h
 have HX0 : Hid _ := hx0;have HXR : Hid _ := hx1;have HKB : Hid _ := hkb;have HC := hC _ 0 hkb;have hsz : w.heap.size ≤ ((w.alloc (.cells (scS s ca cc ta tc ga gc) 32)).alloc (.cells zA 32)).heap.size := hkb.size;clear hkb hV hC hx0 hx1;go_enter Tryz.func96,Tryz.ntmps96;go_upto_region 1 with fail
 generalize ((w.alloc (.cells (scS s ca cc ta tc ga gc) 32)).alloc (.cells zA 32)) = X at *;go_wp2_with (refine ql rfl 32 (.tmp 1) rfl w.heap.size rfl _ _ _ _ HX0.out qu rfl (by kernel_rfl) ?_)
 refine HC.mono ?_;rintro e V ⟨cv',tv',gv',rfl,hO,c2⟩;obtain ⟨a1,n1,c1,a2,n2,c2',a3,n3,c3,rfl,rfl,rfl⟩ := hO.shapes;have HO : Hid (Qo V 0 _ s' _ _ _) := hO;have HR : Hid (V.heap[w.heap.size + 1]? = _) := Grd.carry HXR.out c2;have HB : Hid (Below w.heap.size w V) := HKB.out.trans (c2.mono HKB.out.size);clear hO c2 HC;go_wp2_with (refine qh rfl 32 (.tmp 2) (.tmp 6) rfl (w.heap.size + 1) (scT s' a1 n1 c1 a2 n2 c2' a3 n3 c3) rfl rfl _ _ HR.out (by kernel_rfl) rfl (Qm _ _ _ _ _ _ _ _ _ _) ?_)
 (try simp only [qv,qw])
 refine qk (v := .tuple #[.agg (scT s' a1 n1 c1 a2 n2 c2' a3 n3 c3),.int .i64 er]) ?_ rfl ⟨_,_,_,rfl,?_,qi HB.out (by omega) _⟩
 ·exact Grd.Qd rfl _ _ (w.heap.size + 1) _ _ _ _ rfl (qj _ _ _ _ _ _ HR.out) qu rfl (by kernel_rfl) _ rfl
 ·exact (Qo.off HO.out HR.out Ql (by omega) fun k hk => qg _ _ _ _ hk).mono hsz
theorem qgv (s s' : Scr) (cv tv gv : Value) (pl : Option Addr) (nl cl : Nat) (er : Int) (w0 w : World) (hV : Zh w0 s cv tv gv) (hM : w0.heap.size ≤ w.heap.size)
  (hC : ∀ (W : World) (B1 : Nat),Below w.heap.size w W → W.cell? ⟨B1,0,none⟩ = some (.slice pl nl cl) → Calls qP 132 #[.agg (scrA s cv tv gv),.func (.func 231) #[] #[.pointer (some ⟨B1,0,none⟩)]] W (Made w0 W s' er)) :
  Calls qP 216 #[.agg (scrA s cv tv gv),.slice pl nl cl] w (Made w0 w s' er) := by
 obtain ⟨ca,cc,rfl⟩ := hV.c.shape;obtain ⟨ta,tc,rfl⟩ := hV.t.slice;obtain ⟨ga,gc,rfl⟩ := hV.g.slice;have hkb : Below w.heap.size w (((w.alloc (.cells (scS s ca cc ta tc ga gc) 32)).alloc (.cells #[.slice pl nl cl] 33)).alloc (.cells zA 32)) := ((((qr _ _).alloc (by simp) _).alloc (by simp) _).alloc (by simp;omega) _)
 have hx0 : (w.alloc (.cells (scS s ca cc ta tc ga gc) 32)).heap[w.heap.size]? = some (.cells (scS s ca cc ta tc ga gc) 32 (0,0)) := by
  have h := qf w (.cells (scS s ca cc ta tc ga gc) 32);have e : w.heap.size = w.heap.size := by simp
  rw [e] at h;exact h
 have hx0 := (qs (w.alloc (.cells (scS s ca cc ta tc ga gc) 32)) (.cells #[.slice pl nl cl] 33) _ (Qc hx0)).trans hx0;have hx0 := (qs ((w.alloc (.cells (scS s ca cc ta tc ga gc) 32)).alloc (.cells #[.slice pl nl cl] 33)) (.cells zA 32) _ (Qc hx0)).trans hx0;have hx1 : ((w.alloc (.cells (scS s ca cc ta tc ga gc) 32)).alloc (.cells #[.slice pl nl cl] 33)).heap[w.heap.size + 1]? = some (.cells #[.slice pl nl cl] 33 (0,0)) := by
  have h := qf (w.alloc (.cells (scS s ca cc ta tc ga gc) 32)) (.cells #[.slice pl nl cl] 33);have e : (w.alloc (.cells (scS s ca cc ta tc ga gc) 32)).heap.size = w.heap.size + 1 := by simp
  rw [e] at h;exact h
 have hx1 := (qs ((w.alloc (.cells (scS s ca cc ta tc ga gc) 32)).alloc (.cells #[.slice pl nl cl] 33)) (.cells zA 32) _ (Qc hx1)).trans hx1;have hx2 : (((w.alloc (.cells (scS s ca cc ta tc ga gc) 32)).alloc (.cells #[.slice pl nl cl] 33)).alloc (.cells zA 32)).heap[w.heap.size + 2]? = some (.cells zA 32 (0,0)) := by
  have h := qf ((w.alloc (.cells (scS s ca cc ta tc ga gc) 32)).alloc (.cells #[.slice pl nl cl] 33)) (.cells zA 32);have e : ((w.alloc (.cells (scS s ca cc ta tc ga gc) 32)).alloc (.cells #[.slice pl nl cl] 33)).heap.size = w.heap.size + 2 := by simp
  rw [e] at h;exact h
 have HX0 : Hid _ := hx0;have HXR : Hid _ := hx2;have HKB : Hid _ := hkb;have HC := hC _ (w.heap.size + 1) hkb (qbi hx1);have hsz : w.heap.size ≤ (((w.alloc (.cells (scS s ca cc ta tc ga gc) 32)).alloc (.cells #[.slice pl nl cl] 33)).alloc (.cells zA 32)).heap.size := hkb.size;clear hkb hV hC hx0 hx1 hx2;go_enter Tryz.func216,Tryz.ntmps216;go_upto_region 1 with fail
 generalize (((w.alloc (.cells (scS s ca cc ta tc ga gc) 32)).alloc (.cells #[.slice pl nl cl] 33)).alloc (.cells zA 32)) = X at *;go_wp2_with (refine ql rfl 32 (.tmp 2) rfl w.heap.size rfl _ _ _ _ HX0.out qu rfl (by kernel_rfl) ?_)
 refine HC.mono ?_;rintro e V ⟨cv',tv',gv',rfl,hO,c2⟩;obtain ⟨a1,n1,c1,a2,n2,c2',a3,n3,c3,rfl,rfl,rfl⟩ := hO.shapes;have HO : Hid (Qo V 0 _ s' _ _ _) := hO;have HR : Hid (V.heap[w.heap.size + 2]? = _) := Grd.carry HXR.out c2;have HB : Hid (Below w.heap.size w V) := HKB.out.trans (c2.mono HKB.out.size);clear hO c2 HC;go_wp2_with (refine qh rfl 32 (.tmp 4) (.tmp 9) rfl (w.heap.size + 2) (scT s' a1 n1 c1 a2 n2 c2' a3 n3 c3) rfl rfl _ _ HR.out (by kernel_rfl) rfl (Qm _ _ _ _ _ _ _ _ _ _) ?_)
 (try simp only [qv,qw])
 refine qk (v := .tuple #[.agg (scT s' a1 n1 c1 a2 n2 c2' a3 n3 c3),.int .i64 er]) ?_ rfl ⟨_,_,_,rfl,?_,qi HB.out (by omega) _⟩
 ·exact Grd.Qd rfl _ _ (w.heap.size + 2) _ _ _ _ rfl (qj _ _ _ _ _ _ HR.out) qu rfl (by kernel_rfl) _ rfl
 ·exact (Qo.off HO.out HR.out Ql (by omega) fun k hk => qg _ _ _ _ hk).mono hsz
theorem qf1 (s s' : Scr) (cv tv gv : Value) (t : ByteArray) (er : Int) (w0 w : World) (hV : Zh w0 s cv tv gv) (hM : w0.heap.size ≤ w.heap.size)
  (hC : ∀ (W : World) (B1 : Nat),Below w.heap.size w W → W.cell? ⟨B1,0,none⟩ = some (.string t) → Calls qP 132 #[.agg (scrA s cv tv gv),.func (.func 166) #[] #[.pointer (some ⟨B1,0,none⟩)]] W (Made w0 W s' er)) :
  Calls qP 104 #[.agg (scrA s cv tv gv),.string t] w (Made w0 w s' er) := by
 obtain ⟨ca,cc,rfl⟩ := hV.c.shape;obtain ⟨ta,tc,rfl⟩ := hV.t.slice;obtain ⟨ga,gc,rfl⟩ := hV.g.slice;have hkb : Below w.heap.size w (((w.alloc (.cells (scS s ca cc ta tc ga gc) 32)).alloc (.cells #[.string t] 9)).alloc (.cells zA 32)) := ((((qr _ _).alloc (by simp) _).alloc (by simp) _).alloc (by simp;omega) _)
 have hx0 : (w.alloc (.cells (scS s ca cc ta tc ga gc) 32)).heap[w.heap.size]? = some (.cells (scS s ca cc ta tc ga gc) 32 (0,0)) := by
  have h := qf w (.cells (scS s ca cc ta tc ga gc) 32);have e : w.heap.size = w.heap.size := by simp
  rw [e] at h;exact h
 have hx0 := (qs (w.alloc (.cells (scS s ca cc ta tc ga gc) 32)) (.cells #[.string t] 9) _ (Qc hx0)).trans hx0;have hx0 := (qs ((w.alloc (.cells (scS s ca cc ta tc ga gc) 32)).alloc (.cells #[.string t] 9)) (.cells zA 32) _ (Qc hx0)).trans hx0;have hx1 : ((w.alloc (.cells (scS s ca cc ta tc ga gc) 32)).alloc (.cells #[.string t] 9)).heap[w.heap.size + 1]? = some (.cells #[.string t] 9 (0,0)) := by
  have h := qf (w.alloc (.cells (scS s ca cc ta tc ga gc) 32)) (.cells #[.string t] 9);have e : (w.alloc (.cells (scS s ca cc ta tc ga gc) 32)).heap.size = w.heap.size + 1 := by simp
  rw [e] at h;exact h
 have hx1 := (qs ((w.alloc (.cells (scS s ca cc ta tc ga gc) 32)).alloc (.cells #[.string t] 9)) (.cells zA 32) _ (Qc hx1)).trans hx1;have hx2 : (((w.alloc (.cells (scS s ca cc ta tc ga gc) 32)).alloc (.cells #[.string t] 9)).alloc (.cells zA 32)).heap[w.heap.size + 2]? = some (.cells zA 32 (0,0)) := by
  have h := qf ((w.alloc (.cells (scS s ca cc ta tc ga gc) 32)).alloc (.cells #[.string t] 9)) (.cells zA 32);have e : ((w.alloc (.cells (scS s ca cc ta tc ga gc) 32)).alloc (.cells #[.string t] 9)).heap.size = w.heap.size + 2 := by simp
  rw [e] at h;exact h
 have HX0 : Hid _ := hx0;have HXR : Hid _ := hx2;have HKB : Hid _ := hkb;have HC := hC _ (w.heap.size + 1) hkb (qbi hx1);have hsz : w.heap.size ≤ (((w.alloc (.cells (scS s ca cc ta tc ga gc) 32)).alloc (.cells #[.string t] 9)).alloc (.cells zA 32)).heap.size := hkb.size;clear hkb hV hC hx0 hx1 hx2;go_enter Tryz.func104,Tryz.ntmps104;go_upto_region 1 with fail
 generalize (((w.alloc (.cells (scS s ca cc ta tc ga gc) 32)).alloc (.cells #[.string t] 9)).alloc (.cells zA 32)) = X at *;go_wp2_with (refine ql rfl 32 (.tmp 2) rfl w.heap.size rfl _ _ _ _ HX0.out qu rfl (by kernel_rfl) ?_)
 refine HC.mono ?_;rintro e V ⟨cv',tv',gv',rfl,hO,c2⟩;obtain ⟨a1,n1,c1,a2,n2,c2',a3,n3,c3,rfl,rfl,rfl⟩ := hO.shapes;have HO : Hid (Qo V 0 _ s' _ _ _) := hO;have HR : Hid (V.heap[w.heap.size + 2]? = _) := Grd.carry HXR.out c2;have HB : Hid (Below w.heap.size w V) := HKB.out.trans (c2.mono HKB.out.size);clear hO c2 HC;go_wp2_with (refine qh rfl 32 (.tmp 4) (.tmp 9) rfl (w.heap.size + 2) (scT s' a1 n1 c1 a2 n2 c2' a3 n3 c3) rfl rfl _ _ HR.out (by kernel_rfl) rfl (Qm _ _ _ _ _ _ _ _ _ _) ?_)
 (try simp only [qv,qw])
 refine qk (v := .tuple #[.agg (scT s' a1 n1 c1 a2 n2 c2' a3 n3 c3),.int .i64 er]) ?_ rfl ⟨_,_,_,rfl,?_,qi HB.out (by omega) _⟩
 ·exact Grd.Qd rfl _ _ (w.heap.size + 2) _ _ _ _ rfl (qj _ _ _ _ _ _ HR.out) qu rfl (by kernel_rfl) _ rfl
 ·exact (Qo.off HO.out HR.out Ql (by omega) fun k hk => qg _ _ _ _ hk).mono hsz
theorem qh2 (s s' : Scr) (cv tv gv : Value) (n : Int) (on : Bool) (er : Int) (w0 w : World) (hV : Zh w0 s cv tv gv) (hM : w0.heap.size ≤ w.heap.size)
  (hC : ∀ (W : World) (B1 B2 : Nat),Below w.heap.size w W → W.cell? ⟨B1,0,none⟩ = some (.int .i64 (bits .and .i64 n 63)) → B1 < W.heap.size → B2 < W.heap.size → W.cell? ⟨B2,0,none⟩ = some (.bool on) → Calls qP 132 #[.agg (scrA s cv tv gv),.func (.func 184) #[] #[.pointer (some ⟨B1,0,none⟩),.pointer (some ⟨B2,0,none⟩)]] W (Made w0 W s' er)) :
  Calls qP 143 #[.agg (scrA s cv tv gv),.int .i64 n,.bool on] w (Made w0 w s' er) := by
 obtain ⟨ca,cc,rfl⟩ := hV.c.shape;obtain ⟨ta,tc,rfl⟩ := hV.t.slice;obtain ⟨ga,gc,rfl⟩ := hV.g.slice;have hkb : Below w.heap.size w ((((w.alloc (.cells (scS s ca cc ta tc ga gc) 32)).alloc (.cells #[.int .i64 (bits .and .i64 n 63)] 3)).alloc (.cells #[.bool on] 4)).alloc (.cells zA 32)) := (((((qr _ _).alloc (by simp) _).alloc (by simp) _).alloc (by simp;omega) _).alloc (by simp;omega) _)
 have hx0 : (w.alloc (.cells (scS s ca cc ta tc ga gc) 32)).heap[w.heap.size]? = some (.cells (scS s ca cc ta tc ga gc) 32 (0,0)) := by
  have h := qf w (.cells (scS s ca cc ta tc ga gc) 32);have e : w.heap.size = w.heap.size := by simp
  rw [e] at h;exact h
 have hx0 := (qs (w.alloc (.cells (scS s ca cc ta tc ga gc) 32)) (.cells #[.int .i64 (bits .and .i64 n 63)] 3) _ (Qc hx0)).trans hx0;have hx0 := (qs ((w.alloc (.cells (scS s ca cc ta tc ga gc) 32)).alloc (.cells #[.int .i64 (bits .and .i64 n 63)] 3)) (.cells #[.bool on] 4) _ (Qc hx0)).trans hx0;have hx0 := (qs (((w.alloc (.cells (scS s ca cc ta tc ga gc) 32)).alloc (.cells #[.int .i64 (bits .and .i64 n 63)] 3)).alloc (.cells #[.bool on] 4)) (.cells zA 32) _ (Qc hx0)).trans hx0;have hx1 : ((w.alloc (.cells (scS s ca cc ta tc ga gc) 32)).alloc (.cells #[.int .i64 (bits .and .i64 n 63)] 3)).heap[w.heap.size + 1]? = some (.cells #[.int .i64 (bits .and .i64 n 63)] 3 (0,0)) := by
  have h := qf (w.alloc (.cells (scS s ca cc ta tc ga gc) 32)) (.cells #[.int .i64 (bits .and .i64 n 63)] 3);have e : (w.alloc (.cells (scS s ca cc ta tc ga gc) 32)).heap.size = w.heap.size + 1 := by simp
  rw [e] at h;exact h
 have hx1 := (qs ((w.alloc (.cells (scS s ca cc ta tc ga gc) 32)).alloc (.cells #[.int .i64 (bits .and .i64 n 63)] 3)) (.cells #[.bool on] 4) _ (Qc hx1)).trans hx1;have hx1 := (qs (((w.alloc (.cells (scS s ca cc ta tc ga gc) 32)).alloc (.cells #[.int .i64 (bits .and .i64 n 63)] 3)).alloc (.cells #[.bool on] 4)) (.cells zA 32) _ (Qc hx1)).trans hx1;have hx2 : (((w.alloc (.cells (scS s ca cc ta tc ga gc) 32)).alloc (.cells #[.int .i64 (bits .and .i64 n 63)] 3)).alloc (.cells #[.bool on] 4)).heap[w.heap.size + 2]? = some (.cells #[.bool on] 4 (0,0)) := by
  have h := qf ((w.alloc (.cells (scS s ca cc ta tc ga gc) 32)).alloc (.cells #[.int .i64 (bits .and .i64 n 63)] 3)) (.cells #[.bool on] 4);have e : ((w.alloc (.cells (scS s ca cc ta tc ga gc) 32)).alloc (.cells #[.int .i64 (bits .and .i64 n 63)] 3)).heap.size = w.heap.size + 2 := by simp
  rw [e] at h;exact h
 have hx2 := (qs (((w.alloc (.cells (scS s ca cc ta tc ga gc) 32)).alloc (.cells #[.int .i64 (bits .and .i64 n 63)] 3)).alloc (.cells #[.bool on] 4)) (.cells zA 32) _ (Qc hx2)).trans hx2;have hx3 : ((((w.alloc (.cells (scS s ca cc ta tc ga gc) 32)).alloc (.cells #[.int .i64 (bits .and .i64 n 63)] 3)).alloc (.cells #[.bool on] 4)).alloc (.cells zA 32)).heap[w.heap.size + 3]? = some (.cells zA 32 (0,0)) := by
  have h := qf (((w.alloc (.cells (scS s ca cc ta tc ga gc) 32)).alloc (.cells #[.int .i64 (bits .and .i64 n 63)] 3)).alloc (.cells #[.bool on] 4)) (.cells zA 32);have e : (((w.alloc (.cells (scS s ca cc ta tc ga gc) 32)).alloc (.cells #[.int .i64 (bits .and .i64 n 63)] 3)).alloc (.cells #[.bool on] 4)).heap.size = w.heap.size + 3 := by simp
  rw [e] at h;exact h
 have HX0 : Hid _ := hx0;have HXR : Hid _ := hx3;have HKB : Hid _ := hkb;have HC := hC _ (w.heap.size + 1) (w.heap.size + 2) hkb (qbi hx1) (Qc hx1) (Qc hx2) (qbi hx2);have hsz : w.heap.size ≤ ((((w.alloc (.cells (scS s ca cc ta tc ga gc) 32)).alloc (.cells #[.int .i64 (bits .and .i64 n 63)] 3)).alloc (.cells #[.bool on] 4)).alloc (.cells zA 32)).heap.size := hkb.size;clear hkb hV hC hx0 hx1 hx2 hx3;go_enter Tryz.func143,Tryz.ntmps143;go_upto_region 2 with fail
 generalize ((((w.alloc (.cells (scS s ca cc ta tc ga gc) 32)).alloc (.cells #[.int .i64 (bits .and .i64 n 63)] 3)).alloc (.cells #[.bool on] 4)).alloc (.cells zA 32)) = X at *;go_wp2_with (refine ql rfl 32 (.tmp 3) rfl w.heap.size rfl _ _ _ _ HX0.out qu rfl (by kernel_rfl) ?_)
 refine HC.mono ?_;rintro e V ⟨cv',tv',gv',rfl,hO,c2⟩;obtain ⟨a1,n1,c1,a2,n2,c2',a3,n3,c3,rfl,rfl,rfl⟩ := hO.shapes;have HO : Hid (Qo V 0 _ s' _ _ _) := hO;have HR : Hid (V.heap[w.heap.size + 3]? = _) := Grd.carry HXR.out c2;have HB : Hid (Below w.heap.size w V) := HKB.out.trans (c2.mono HKB.out.size);clear hO c2 HC;go_wp2_with (refine qh rfl 32 (.tmp 6) (.tmp 13) rfl (w.heap.size + 3) (scT s' a1 n1 c1 a2 n2 c2' a3 n3 c3) rfl rfl _ _ HR.out (by kernel_rfl) rfl (Qm _ _ _ _ _ _ _ _ _ _) ?_)
 (try simp only [qv,qw])
 refine qk (v := .tuple #[.agg (scT s' a1 n1 c1 a2 n2 c2' a3 n3 c3),.int .i64 er]) ?_ rfl ⟨_,_,_,rfl,?_,qi HB.out (by omega) _⟩
 ·exact Grd.Qd rfl _ _ (w.heap.size + 3) _ _ _ _ rfl (qj _ _ _ _ _ _ HR.out) qu rfl (by kernel_rfl) _ rfl
 ·exact (Qo.off HO.out HR.out Ql (by omega) fun k hk => qg _ _ _ _ hk).mono hsz
end Put
namespace Put
open Grd (C SliceAt Qb Qf z0 Q0 flat Qe Q8)
theorem qa8 {w0 w : World} {s s' : Scr} {cv tv gv : Value} {n hh : Nat} (h : Met w0 w s cv tv gv) (hR : Qg s n hh) (df : FuncId) (hpl : Plain df) (caps : Array Value) (rows' : List (List C)) (cs' : List C)
  (hM : ∀ w1,Below w.heap.size w w1 → Does df caps w0.heap.size w1 s s' (Qe n s.cs hh) rows') (hO : V6 s' rows') (hcs : rows'.flatten = cs') :
  Calls qP 132 #[.agg (scrA s cv tv gv),.func (.func df) #[] caps] w (Made w0 w { s' with cs := cs' } 0) := by
 have hz := Yh hR;have key := qky s { s' with cs := cs' } cv tv gv df caps w0 w h.t h.v h.b h.f fun W hW => by
  rw [hz];exact Jl n hh s s' rows' cv tv gv df hpl caps w0 W h.v (h.b.trans (hW.mono h.b.size)) h.f hR.w hR.h hR.gz (fun w1 hw1 => hM w1 (hW.trans (hw1.mono hW.size))) hO cs' hcs
 rwa [hz] at key
end Put
namespace Put
open Grd (C)
theorem qdg {W : World} {B p : Nat} (h : B ≠ p) (i : Nat) (v : Value) : (W.setCell ⟨p,i,none⟩ v).cell? ⟨B,0,none⟩ = W.cell? ⟨B,0,none⟩ := by
 unfold World.cell?;rw [Zf h]
theorem qd3 {W : World} {a : Addr} {v : Value} (h : W.cell? a = some v) : W.drew.cell? a = some v := Qa ((qr _ _).drew) h
theorem qxd (b : Int) (on : Bool) (B1 B2 M : Nat) (w : World) (s : Scr) (rows : List (List C)) (hB1 : w.cell? ⟨B1, 0, none⟩ = some (.int .i64 b)) (hB2 : w.cell? ⟨B2, 0, none⟩ = some (.bool on)) (h1 : B1 < w.heap.size) (h2 : B2 < w.heap.size) :
  Does 184 #[.pointer (some ⟨B1,0,none⟩),.pointer (some ⟨B2,0,none⟩)] M w s (setS s b on) rows rows := by
 intro W p hb hS;have hlo := hS.lo;have hne1 : B1 ≠ p := by omega
 have hne2 : B2 ≠ p := by omega
 have q1 := Qa hb hB1;have q2 := Qa hb hB2;have k1 : ShAt 110 (W.setCell ⟨p,11,none⟩ (.int .i64 (bits .andNot .i64 s.modes b))) M w.heap.size p { s with modes := bits .andNot .i64 s.modes b } rows := hS.set Qp 11 _ (fun _ _ _ _ => rfl) rfl rfl
 have HK1 : Hid (ShAt 110 (W.setCell ⟨p,11,none⟩ (.int .i64 (bits .andNot .i64 s.modes b))).drew M w.heap.size p { s with modes := bits .andNot .i64 s.modes b } rows) := k1.drew
 clear k1;have HB1 : Hid (Below w.heap.size W (W.setCell ⟨p,11,none⟩ (.int .i64 (bits .andNot .i64 s.modes b))).drew) := ((qr _ _).setCell hlo _).drew;have HQ1 : Hid ((W.setCell ⟨p,11,none⟩ (.int .i64 (bits .andNot .i64 s.modes b))).drew.cell? ⟨B1,0,none⟩ = some (.int .i64 b)) := qd3 ((qdg hne1 _ _).trans q1);have HQ2 : Hid ((W.setCell ⟨p,11,none⟩ (.int .i64 (bits .andNot .i64 s.modes b))).drew.cell? ⟨B2,0,none⟩ = some (.bool on)) := qd3 ((qdg hne2 _ _).trans q2);obtain ⟨c0,c1,c3,c4,c5,c9,c10,c11,c19,f⟩ := hS.words;have f11 := f 11;have HR : Hid (setS s b on = Ym (Vn b { s with modes := Yy s.modes b on })) := rfl
 generalize setS s b on = s' at *;clear hB1 hB2 hS f c0 c1 c3 c4 c5 c9 c10 c19 hb h1 h2
 show Calls _ _ #[.pointer (some ⟨p,0,none⟩),.pointer (some ⟨B1,0,none⟩),.pointer (some ⟨B2,0,none⟩)] _ _
 go_enter Tryz.func184,Tryz.ntmps184;go_upto_region 0 with fail
 go_region
 all_goals (
  generalize (W.setCell ⟨p,11,none⟩ (.int .i64 (bits .andNot .i64 s.modes b))).drew = Y at *;clear q1 q2 c11 f11;have q1 := HQ1.out;have q2 := HQ2.out;clear HQ1 HQ2
  cases on with
  | false =>
   have KY : Hid (ShAt 110 Y M w.heap.size p { s with modes := Yy s.modes b false } rows) := HK1.out
   have BY : Hid (Below w.heap.size W Y) := HB1.out;clear HK1 HB1;obtain ⟨s1,hs1⟩ : ∃ s1,s1 = { s with modes := Yy s.modes b false } := ⟨_,rfl⟩
   rw [← hs1] at HR KY;clear hs1
   by_cases hz : bits .and .i64 b 2 = 0
   ·have HZ : (bits .and .i64 b 2 == 0) = true := by simpa using hz
    have HS : Hid (s' = Ym s1) := by unfold Hid;rw [HR.out,Vn,if_pos hz]
    clear HR hz;generalize s1 = s2 at *;obtain ⟨c0,c1,c3,c4,c5,c9,c10,c11,c19,f⟩ := ShAt.words KY.out;have f5 := f 5
    cases hl : s2.late with
    | false =>
     have HE : Hid (s' = { s2 with late := false }) := by unfold Hid;rw [HS.out];unfold Ym;rw [hl];rfl
     have HK6 : Hid (ShAt 110 (Y.setCell ⟨p,5,none⟩ (.bool false)) M w.heap.size p { s2 with late := false } rows) := ShAt.set Qp KY.out 5 _ (fun _ _ _ _ => rfl) rfl rfl
     have HB6 : Hid (Below w.heap.size W (Y.setCell ⟨p,5,none⟩ (.bool false))) := BY.out.setCell hlo _;rw [hl] at c5;clear f c0 c1 c3 c4 c9 c10 c11 c19 KY BY HS;go_wp2_with fail;go_end0;rw [HE.out];exact ⟨rfl,HK6.out,HB6.out⟩
    | true =>
     have HE : Hid (s' = { s2 with late := hasB s2.modes 4 }) := by unfold Hid;rw [HS.out];unfold Ym;rw [hl];rfl
     have HH := Kk 4 _ KY.out;have HK6 : Hid (ShAt 110 (Y.setCell ⟨p,5,none⟩ (.bool (hasB s2.modes 4))) M w.heap.size p { s2 with late := hasB s2.modes 4 } rows) := ShAt.set Qp KY.out 5 _ (fun _ _ _ _ => rfl) rfl rfl
     have HB6 : Hid (Below w.heap.size W (Y.setCell ⟨p,5,none⟩ (.bool (hasB s2.modes 4)))) := BY.out.setCell hlo _;rw [hl] at c5;clear f c0 c1 c3 c4 c9 c10 c11 c19 KY BY HS;generalize hasB s2.modes 4 = hv at *;go_wp2_with fail;refine HH.mono ?_;rintro e V ⟨rfl,hw⟩;subst hw;clear HH;go_wp2_with fail;go_end0;rw [HE.out];exact ⟨rfl,HK6.out,HB6.out⟩
   ·have HS0 : Hid (s' = Ym (qad s1)) := by unfold Hid; rw [HR.out, Vn, if_neg hz]
    have HZ : (bits .and .i64 b 2 == 0) = false := by simpa using hz
    have HH := qf2 _ KY.out;have BY0 : Hid _ := BY;clear HR hz KY BY;go_wp2_with fail;refine HH.mono ?_;rintro e Z ⟨rfl,hky,hby⟩;have KY : Hid (ShAt 110 Z M w.heap.size p (qad s1) rows) := hky;have BY : Hid (Below w.heap.size W Z) := BY0.out.trans hby;clear HH BY0 hky hby q1;generalize qad s1 = s2 at *;have HS : Hid (s' = Ym s2) := HS0.out;clear HS0;obtain ⟨c0,c1,c3,c4,c5,c9,c10,c11,c19,f⟩ := ShAt.words KY.out;have f5 := f 5
    cases hl : s2.late with
    | false =>
     have HE : Hid (s' = { s2 with late := false }) := by unfold Hid;rw [HS.out];unfold Ym;rw [hl];rfl
     have HK6 : Hid (ShAt 110 (Z.setCell ⟨p,5,none⟩ (.bool false)) M w.heap.size p { s2 with late := false } rows) := ShAt.set Qp KY.out 5 _ (fun _ _ _ _ => rfl) rfl rfl
     have HB6 : Hid (Below w.heap.size W (Z.setCell ⟨p,5,none⟩ (.bool false))) := BY.out.setCell hlo _;rw [hl] at c5;clear f c0 c1 c3 c4 c9 c10 c11 c19 KY BY HS;go_wp2_with fail;go_end0;rw [HE.out];exact ⟨rfl,HK6.out,HB6.out⟩
    | true =>
     have HE : Hid (s' = { s2 with late := hasB s2.modes 4 }) := by unfold Hid;rw [HS.out];unfold Ym;rw [hl];rfl
     have HH := Kk 4 _ KY.out;have HK6 : Hid (ShAt 110 (Z.setCell ⟨p,5,none⟩ (.bool (hasB s2.modes 4))) M w.heap.size p { s2 with late := hasB s2.modes 4 } rows) := ShAt.set Qp KY.out 5 _ (fun _ _ _ _ => rfl) rfl rfl
     have HB6 : Hid (Below w.heap.size W (Z.setCell ⟨p,5,none⟩ (.bool (hasB s2.modes 4)))) := BY.out.setCell hlo _;rw [hl] at c5;clear f c0 c1 c3 c4 c9 c10 c11 c19 KY BY HS;generalize hasB s2.modes 4 = hv at *;go_wp2_with fail;refine HH.mono ?_;rintro e V ⟨rfl,hw⟩;subst hw;clear HH;go_wp2_with fail;go_end0;rw [HE.out];exact ⟨rfl,HK6.out,HB6.out⟩
  | true =>
   have k2 : ShAt 110 (Y.setCell ⟨p,11,none⟩ (.int .i64 (bits .or .i64 (bits .andNot .i64 s.modes b) b))) M w.heap.size p { s with modes := Yy s.modes b true } rows := ShAt.set Qp HK1.out 11 _ (fun _ _ _ _ => rfl) rfl rfl
   have HK2 : Hid (ShAt 110 (Y.setCell ⟨p,11,none⟩ (.int .i64 (bits .or .i64 (bits .andNot .i64 s.modes b) b))).drew M w.heap.size p { s with modes := Yy s.modes b true } rows) := k2.drew
   clear k2;have HB2 : Hid (Below w.heap.size W (Y.setCell ⟨p,11,none⟩ (.int .i64 (bits .or .i64 (bits .andNot .i64 s.modes b) b))).drew) := (HB1.out.setCell hlo _).drew;have HQ1 : Hid ((Y.setCell ⟨p,11,none⟩ (.int .i64 (bits .or .i64 (bits .andNot .i64 s.modes b) b))).drew.cell? ⟨B1,0,none⟩ = some (.int .i64 b)) := qd3 ((qdg hne1 _ _).trans q1);obtain ⟨s1,hs1⟩ : ∃ s1,s1 = { s with modes := Yy s.modes b true } := ⟨_,rfl⟩
   rw [← hs1] at HR HK2;obtain ⟨c0,c1,c3,c4,c5,c9,c10,c11,c19,f⟩ := ShAt.words HK1.out;have f11 := f 11
   dsimp only at c11
   clear HK1 HB1 f c0 c1 c3 c4 c5 c9 c10 c19;go_upto_region 2 with fail
   go_region
   all_goals (
    generalize (Y.setCell ⟨p,11,none⟩ (.int .i64 (bits .or .i64 (bits .andNot .i64 s.modes b) b))).drew = Y2 at *;clear q1 q2 c11 f11 hs1;have q1 := HQ1.out;have KY : Hid (ShAt 110 Y2 M w.heap.size p s1 rows) := HK2;have BY : Hid (Below w.heap.size W Y2) := HB2;clear HQ1 HK2 HB2
    by_cases hz : bits .and .i64 b 2 = 0
    ·have HZ : (bits .and .i64 b 2 == 0) = true := by simpa using hz
     have HS : Hid (s' = Ym s1) := by unfold Hid;rw [HR.out,Vn,if_pos hz]
     clear HR hz;generalize s1 = s2 at *;obtain ⟨c0,c1,c3,c4,c5,c9,c10,c11,c19,f⟩ := ShAt.words KY.out;have f5 := f 5
     cases hl : s2.late with
     | false =>
      have HE : Hid (s' = { s2 with late := false }) := by unfold Hid;rw [HS.out];unfold Ym;rw [hl];rfl
      have HK6 : Hid (ShAt 110 (Y2.setCell ⟨p,5,none⟩ (.bool false)) M w.heap.size p { s2 with late := false } rows) := ShAt.set Qp KY.out 5 _ (fun _ _ _ _ => rfl) rfl rfl
      have HB6 : Hid (Below w.heap.size W (Y2.setCell ⟨p,5,none⟩ (.bool false))) := BY.out.setCell hlo _;rw [hl] at c5;clear f c0 c1 c3 c4 c9 c10 c11 c19 KY BY HS;go_wp2_with fail;go_end0;rw [HE.out];exact ⟨rfl,HK6.out,HB6.out⟩
     | true =>
      have HE : Hid (s' = { s2 with late := hasB s2.modes 4 }) := by unfold Hid;rw [HS.out];unfold Ym;rw [hl];rfl
      have HH := Kk 4 _ KY.out;have HK6 : Hid (ShAt 110 (Y2.setCell ⟨p,5,none⟩ (.bool (hasB s2.modes 4))) M w.heap.size p { s2 with late := hasB s2.modes 4 } rows) := ShAt.set Qp KY.out 5 _ (fun _ _ _ _ => rfl) rfl rfl
      have HB6 : Hid (Below w.heap.size W (Y2.setCell ⟨p,5,none⟩ (.bool (hasB s2.modes 4)))) := BY.out.setCell hlo _;rw [hl] at c5;clear f c0 c1 c3 c4 c9 c10 c11 c19 KY BY HS;generalize hasB s2.modes 4 = hv at *;go_wp2_with fail;refine HH.mono ?_;rintro e V ⟨rfl,hw⟩;subst hw;clear HH;go_wp2_with fail;go_end0;rw [HE.out];exact ⟨rfl,HK6.out,HB6.out⟩
    ·have HS0 : Hid (s' = Ym (qad s1)) := by unfold Hid; rw [HR.out, Vn, if_neg hz]
     have HZ : (bits .and .i64 b 2 == 0) = false := by simpa using hz
     have HH := qf2 _ KY.out;have BY0 : Hid _ := BY;clear HR hz KY BY;go_wp2_with fail;refine HH.mono ?_;rintro e Z ⟨rfl,hky,hby⟩;have KY : Hid (ShAt 110 Z M w.heap.size p (qad s1) rows) := hky;have BY : Hid (Below w.heap.size W Z) := BY0.out.trans hby;clear HH BY0 hky hby q1;generalize qad s1 = s2 at *;have HS : Hid (s' = Ym s2) := HS0.out;clear HS0;obtain ⟨c0,c1,c3,c4,c5,c9,c10,c11,c19,f⟩ := ShAt.words KY.out;have f5 := f 5
     cases hl : s2.late with
     | false =>
      have HE : Hid (s' = { s2 with late := false }) := by unfold Hid;rw [HS.out];unfold Ym;rw [hl];rfl
      have HK6 : Hid (ShAt 110 (Z.setCell ⟨p,5,none⟩ (.bool false)) M w.heap.size p { s2 with late := false } rows) := ShAt.set Qp KY.out 5 _ (fun _ _ _ _ => rfl) rfl rfl
      have HB6 : Hid (Below w.heap.size W (Z.setCell ⟨p,5,none⟩ (.bool false))) := BY.out.setCell hlo _;rw [hl] at c5;clear f c0 c1 c3 c4 c9 c10 c11 c19 KY BY HS;go_wp2_with fail;go_end0;rw [HE.out];exact ⟨rfl,HK6.out,HB6.out⟩
     | true =>
      have HE : Hid (s' = { s2 with late := hasB s2.modes 4 }) := by unfold Hid;rw [HS.out];unfold Ym;rw [hl];rfl
      have HH := Kk 4 _ KY.out;have HK6 : Hid (ShAt 110 (Z.setCell ⟨p,5,none⟩ (.bool (hasB s2.modes 4))) M w.heap.size p { s2 with late := hasB s2.modes 4 } rows) := ShAt.set Qp KY.out 5 _ (fun _ _ _ _ => rfl) rfl rfl
      have HB6 : Hid (Below w.heap.size W (Z.setCell ⟨p,5,none⟩ (.bool (hasB s2.modes 4)))) := BY.out.setCell hlo _;rw [hl] at c5;clear f c0 c1 c3 c4 c9 c10 c11 c19 KY BY HS;generalize hasB s2.modes 4 = hv at *;go_wp2_with fail;refine HH.mono ?_;rintro e V ⟨rfl,hw⟩;subst hw;clear HH;go_wp2_with fail;go_end0;rw [HE.out];exact ⟨rfl,HK6.out,HB6.out⟩
))
end Put
end Go.Proofs.YtooobiigijphkaaGreatDoor
