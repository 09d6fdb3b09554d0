/- Parts of the proof, shortened by a program. -/
import Derived.Test.YtooobiigijphkaaGreatDoorPartG
import Derived.Test.YtooobiigijphkaaGreatDoorPartE
import Derived.Deep.RegionWith
import Derived.Deep.Cut
import Derived.Deep.CutRange
import Derived.Test.YtooobiigijphkaaGreatDoorPartH
import Derived.BigRegion
import Derived.BigQuiet
import Derived.Test.YtooobiigijphkaaGreatDoorPartF
set_option maxHeartbeats 4000000
open List renaming getD → qy
open Go renaming heap_alloc_new → qf, setRow_other → qg, wpList_store_row → qh, below_setRow → qi, setRow_heap → qj, bodyPost_ret → qk, wpList_load_row → ql
open Go.RowKit.Below renaming refl → qr, heap_alloc → qs
open Go.Proofs.Tryz renaming prog → qP, underlying32 → qu
open Go.Exit renaming inBlock → qv, «then» → qw
namespace Go.Proofs.YtooobiigijphkaaGreatDoor
set_option linter.unusedVariables false
set_option linter.unusedSimpArgs false
set_option maxRecDepth 100000
open Go.ChangeShapes Go.WideShapes Go.ChangeAt Go.RowKit
namespace Put
open Grd (C SliceAt Qb Qf z0 Q0 flat Qe)
theorem ShA.set {t : TypeId} (ht : X6 t) {W : World} {M N p : Nat} {s s' : Scr} {rows : List (List C)} {cv tv gv rv : Value} {gvs vs : List Value} (h : ShA t W M N p s rows cv tv gv rv gvs vs) (i : Nat) (v : Value) (e : (shA s cv tv gv rv).setIfInBounds i v = shA s' cv tv gv rv) (h1 : s'.tabs = s.tabs) (h2 : s'.gone = s.gone) : ShA t (W.setCell ⟨p, i, none⟩ v) M N p s' rows cv tv gv rv gvs vs :=
 h.put ht (X9 h.blk e) (fun _ hk => Zf hk) h1 h2
theorem ShAt.set {t : TypeId} (ht : X6 t) {W : World} {M N p : Nat} {s s' : Scr} {rows : List (List C)} (h : ShAt t W M N p s rows) (i : Nat) (v : Value) (e : ∀ cv tv gv rv,(shA s cv tv gv rv).setIfInBounds i v = shA s' cv tv gv rv) (h1 : s'.tabs = s.tabs) (h2 : s'.gone = s.gone) : ShAt t (W.setCell ⟨p,i,none⟩ v) M N p s' rows := by
 obtain ⟨cv,tv,gv,rv,gvs,vs,h⟩ := h;exact ⟨cv,tv,gv,rv,gvs,vs,h.set ht i v (e _ _ _ _) h1 h2⟩
theorem ShAt.next {t : TypeId} {W W' : World} {M N p : Nat} {s : Scr} {rows : List (List C)} (h : ShAt t W M N p s rows) (hb : Below W.heap.size W W') : ShAt t W' M N p s rows := by
 obtain ⟨cv,tv,gv,rv,gvs,vs,h⟩ := h;exact ⟨cv,tv,gv,rv,gvs,vs,h.next hb⟩
theorem ShAt.lo {t : TypeId} {W : World} {M N p : Nat} {s : Scr} {rows : List (List C)} (h : ShAt t W M N p s rows) : N ≤ p := by
 obtain ⟨cv,tv,gv,rv,gvs,vs,h⟩ := h;exact h.lo
theorem ShAt.drew {t : TypeId} {W : World} {M N p : Nat} {s : Scr} {rows : List (List C)} (h : ShAt t W M N p s rows) : ShAt t W.drew M N p s rows := h.next ((qr _ _).drew)
theorem ShAt.words {t : TypeId} {W : World} {M N p : Nat} {s : Scr} {rows : List (List C)} (h : ShAt t W M N p s rows) :
  W.cell? ⟨p,0,none⟩ = some (.int .i64 s.w) ∧ W.cell? ⟨p,1,none⟩ = some (.int .i64 s.h) ∧ W.cell? ⟨p,3,none⟩ = some (.int .i64 s.x) ∧ W.cell? ⟨p,4,none⟩ = some (.int .i64 s.y) ∧ W.cell? ⟨p,5,none⟩ = some (.bool s.late) ∧ W.cell? ⟨p,9,none⟩ = some (.int .i64 s.top) ∧ W.cell? ⟨p,10,none⟩ = some (.int .i64 s.bot) ∧ W.cell? ⟨p,11,none⟩ = some (.int .i64 s.modes) ∧ W.cell? ⟨p,19,none⟩ = some (.int .i32 s.last) ∧ ∀ i,W.frozen? ⟨p,i,none⟩ = false := by
 obtain ⟨cv,tv,gv,rv,gvs,vs,h⟩ := h;obtain ⟨⟨c0,c1,-,c3,c4,c5,-,-,-,c9,c10⟩,⟨c11,-,-,-,-,-,-,-,c19,-⟩,f⟩ := Qr h.blk;exact ⟨c0,c1,c3,c4,c5,c9,c10,c11,c19,f⟩
theorem ShAt.fin {t : TypeId} (ht : X6 t) {W : World} {M N p : Nat} {s s' : Scr} {rows : List (List C)} (h : ShAt t W M N p s rows) (i : Nat) (v : Value) (e : ∀ cv tv gv rv,(shA s cv tv gv rv).setIfInBounds i v = shA s' cv tv gv rv) (h1 : s'.tabs = s.tabs) (h2 : s'.gone = s.gone) : ∀ v',v' = v → ShAt t (W.setCell ⟨p,i,none⟩ v').drew M N p s' rows ∧ Below N W (W.setCell ⟨p,i,none⟩ v').drew := fun v' hv => by
 subst hv;exact ⟨(h.set ht i _ e h1 h2).drew,((qr _ _).setCell h.lo _).drew⟩
theorem Zl (a : Int) (h0 : -9223372036854775808 ≤ a) (h1 : a ≤ 9223372036854775807) : IntKind.i64.wrap a = a := by
 rw [IntKind.wrap_i64];omega
theorem qcp (a : Int) (h0 : -9223372036854775808 ≤ a) (h1 : a ≤ 9223372036854775807) : Value.int .i64 (IntKind.i64.wrap a) = Value.int .i64 a := by rw [Zl a h0 h1]
def hasB (m b : Int) : Bool := bits .and .i64 m b == b
theorem Kk {M N p : Nat} {s : Scr} {rows : List (List C)} (b : Int) (W : World) (hS : ShAt 110 W M N p s rows) : Calls qP 64 #[.pointer (some ⟨p,0,none⟩),.int .i64 b] W fun e w' => e = .returned (.bool (hasB s.modes b)) ∧ W = w' := by
 obtain ⟨c0,c1,c3,c4,c5,c9,c10,c11,c19,f⟩ := hS.words;clear c0 c1 c3 c4 c5 c9 c10 c19 f hS;go_enter Tryz.func64,Tryz.ntmps64;go_wp2_with fail;go_ret;exact ⟨rfl,rfl⟩
def Xt (n a b : Int) : Int := min (max n a) b
def cnt (n : Int) : Int := Xt n 1 9999
theorem Xw (n : Int) : 1 ≤ cnt n ∧ cnt n ≤ 9999 := by unfold cnt Xt;omega
theorem qcx (n a b : Int) (w : World) : Calls qP 180 #[.int .i64 n,.int .i64 a,.int .i64 b] w fun e w' => e = .returned (.int .i64 (Xt n a b)) ∧ w = w' := by
 have h1 := Grd.max2 n a;have h2 := Grd.min2 (max n a) b;go_enter Tryz.func180,Tryz.ntmps180;go_wp2_with fail;go_ret;exact ⟨rfl,rfl⟩
theorem Yf (n : Int) (w : World) : Calls qP 127 #[.int .i64 n] w fun e w' => e = .returned (.int .i64 (cnt n)) ∧ w = w' := by
 have h := qcx n 1 9999 w;go_enter Tryz.func127,Tryz.ntmps127;go_wp2_with fail;refine h.mono ?_;rintro e W1 ⟨rfl,hw⟩;subst hw;go_wp2_with fail;go_ret;exact ⟨rfl,rfl⟩
end Put
namespace Put
open Grd (C)
def qj1 (s : Scr) : Scr := { s with x := Xt s.x 0 (s.w - 1),y := Xt s.y 0 (s.h - 1) }
def Vj (s : Scr) : Scr := { s with late := false }
theorem qqa (tf : FuncId) (hpl : Plain tf) (tcaps : Array Value) (B M : Nat) (w : World) (s s1 : Scr) (rows rows1 : List (List C)) (hB : w.cell? ⟨B, 0, none⟩ = some (.func (.func tf) #[] tcaps))
  (hto : Does tf tcaps M w (Vj s) s1 rows rows1) (w1 : 1 ≤ s1.w) (w2 : s1.w ≤ 120) (w3 : 1 ≤ s1.h) (w4 : s1.h ≤ 60) :
  Does 179 #[.pointer (some ⟨B,0,none⟩)] M w s (qj1 s1) rows rows1 := by
 intro W p hb hS;obtain ⟨c0,c1,c3,c4,c5,c9,c10,c11,c19,f⟩ := hS.words;have f5 := f 5;have q0 := Qa hb hB;have hBl := World.block_lt_of_cell? w _ hB;have hlo := hS.lo;have hne : B ≠ p := by have : B < w.heap.size := hBl;omega
 have HS1 : Hid (ShAt 110 (W.setCell ⟨p,5,none⟩ (.bool false)) M w.heap.size p (Vj s) rows) := hS.set Qp 5 _ (fun _ _ _ _ => rfl) rfl rfl
 have HB1 : Hid (Below w.heap.size w (W.setCell ⟨p,5,none⟩ (.bool false))) := hb.setCell hlo _;have HB1' : Hid (Below w.heap.size W (W.setCell ⟨p,5,none⟩ (.bool false))) := (qr _ _).setCell hlo _;have HTO := hto _ p HB1.out HS1.out;have HWI : Hid (∀ a b c W,Calls qP 180 #[.int .i64 a,.int .i64 b,.int .i64 c] W fun e w' => e = .returned (.int .i64 (Xt a b c)) ∧ W = w') := fun a b c W => qcx a b c W
 unfold Plain at hpl;clear hS hb hB c0 c1 c3 c4 c9 c10 c11 c19 f hto;go_enter Tryz.func179,Tryz.ntmps179;go_wp2_with fail;refine HTO.mono ?_;rintro e W2 ⟨rfl,hS2,b2⟩;have HB2 : Hid (Below w.heap.size W W2) := HB1'.out.trans b2;have HS2 : Hid (ShAt 110 W2 M w.heap.size p s1 rows1) := hS2;clear HTO hS2 b2 q0 c5 f5;go_upto_region 2 with fail
 go_cut [] from 10 to 26 (fun wx => ShAt 110 wx M w.heap.size p { s1 with x := Xt s1.x 0 (s1.w - 1) } rows1 ∧ Below w.heap.size W2 wx)
 case first =>
  obtain ⟨c0,c1,c3,c4,c5,c9,c10,c11,c19,f⟩ := HS2.out.words;have f3 := f 3;have HE : Hid (∀ v',v' = Value.int .i64 (Xt s1.x 0 (s1.w - 1)) → ShAt 110 (W2.setCell ⟨p,3,none⟩ v').drew M w.heap.size p { s1 with x := Xt s1.x 0 (s1.w - 1) } rows1 ∧ Below w.heap.size W2 (W2.setCell ⟨p,3,none⟩ v').drew) := HS2.out.fin Qp 3 _ (fun _ _ _ _ => rfl) rfl rfl
  clear c1 c4 c5 c9 c10 c11 c19 f;go_region_with (first | (go_at_call 180;refine (HWI.out _ _ _ _).mono ?_;rintro e V ⟨rfl,hv⟩;subst hv))
  all_goals go_wp2_with fail
  all_goals go_meet
  all_goals exact HE.out _ (by rw [Zl _ (by omega) (by omega)])
 case rest =>
  obtain ⟨hS3,b3⟩ := hcut;obtain ⟨c0,c1,c3,c4,c5,c9,c10,c11,c19,f⟩ := hS3.words;have f4 := f 4;have HE : Hid (∀ v',v' = Value.int .i64 (Xt s1.y 0 (s1.h - 1)) → ShAt 110 (wc.setCell ⟨p,4,none⟩ v').drew M w.heap.size p (qj1 s1) rows1 ∧ Below w.heap.size wc (wc.setCell ⟨p,4,none⟩ v').drew) := hS3.fin Qp 4 _ (fun _ _ _ _ => rfl) rfl rfl
  have HB3 : Hid (Below w.heap.size W wc) := HB2.out.trans b3;clear c0 c3 c5 c9 c10 c11 c19 f hS3 b3;go_upto_region 3 with fail
  go_region_with (first | (go_at_call 180;refine (HWI.out _ _ _ _).mono ?_;rintro e V ⟨rfl,hv⟩;subst hv))
  all_goals go_end0
  all_goals refine ⟨rfl,?_⟩
  all_goals exact ⟨(HE.out _ (by rw [Zl _ (by omega) (by omega)])).1,HB3.out.trans (HE.out _ (by rw [Zl _ (by omega) (by omega)])).2⟩
theorem Ju {W : World} {R : Nat} {v : Value} {t : TypeId} (h : W.heap[R]? = some (.cells #[v] t (0,0))) : W.cell? ⟨R,0,none⟩ = some v := by simp [World.cell?,h]
theorem qlo (s s' : Scr) (cv tv gv : Value) (tf : FuncId) (tcaps : Array Value) (er : Int) (w0 w : World) (hV : Zh w0 s cv tv gv) (hM : w0.heap.size ≤ w.heap.size)
  (hC : ∀ (W : World) (B1 : Nat),Below w.heap.size w W → W.cell? ⟨B1,0,none⟩ = some (.func (.func tf) #[] tcaps) → Calls qP 135 #[.agg (scrA s cv tv gv),.func (.func 179) #[] #[.pointer (some ⟨B1,0,none⟩)]] W (Made w0 W s' er)) :
  Calls qP 125 #[.agg (scrA s cv tv gv),.func (.func tf) #[] tcaps] w (Made w0 w s' er) := by
 obtain ⟨ca,cc,rfl⟩ := hV.c.shape;obtain ⟨ta,tc,rfl⟩ := hV.t.slice;obtain ⟨ga,gc,rfl⟩ := hV.g.slice;have hkb : Below w.heap.size w (((w.alloc (.cells (scS s ca cc ta tc ga gc) 32)).alloc (.cells #[.func (.func tf) #[] tcaps] 85)).alloc (.cells zA 32)) := ((((qr _ _).alloc (by simp) _).alloc (by simp) _).alloc (by simp;omega) _)
 have hx0 : (w.alloc (.cells (scS s ca cc ta tc ga gc) 32)).heap[w.heap.size]? = some (.cells (scS s ca cc ta tc ga gc) 32 (0,0)) := by
  have h := qf w (.cells (scS s ca cc ta tc ga gc) 32);have e : w.heap.size = w.heap.size := by simp
  rw [e] at h;exact h
 have hx0 := (qs (w.alloc (.cells (scS s ca cc ta tc ga gc) 32)) (.cells #[.func (.func tf) #[] tcaps] 85) _ (Qc hx0)).trans hx0;have hx0 := (qs ((w.alloc (.cells (scS s ca cc ta tc ga gc) 32)).alloc (.cells #[.func (.func tf) #[] tcaps] 85)) (.cells zA 32) _ (Qc hx0)).trans hx0;have hx1 : ((w.alloc (.cells (scS s ca cc ta tc ga gc) 32)).alloc (.cells #[.func (.func tf) #[] tcaps] 85)).heap[w.heap.size + 1]? = some (.cells #[.func (.func tf) #[] tcaps] 85 (0,0)) := by
  have h := qf (w.alloc (.cells (scS s ca cc ta tc ga gc) 32)) (.cells #[.func (.func tf) #[] tcaps] 85);have e : (w.alloc (.cells (scS s ca cc ta tc ga gc) 32)).heap.size = w.heap.size + 1 := by simp
  rw [e] at h;exact h
 have hx1 := (qs ((w.alloc (.cells (scS s ca cc ta tc ga gc) 32)).alloc (.cells #[.func (.func tf) #[] tcaps] 85)) (.cells zA 32) _ (Qc hx1)).trans hx1;have hx2 : (((w.alloc (.cells (scS s ca cc ta tc ga gc) 32)).alloc (.cells #[.func (.func tf) #[] tcaps] 85)).alloc (.cells zA 32)).heap[w.heap.size + 2]? = some (.cells zA 32 (0,0)) := by
  have h := qf ((w.alloc (.cells (scS s ca cc ta tc ga gc) 32)).alloc (.cells #[.func (.func tf) #[] tcaps] 85)) (.cells zA 32);have e : ((w.alloc (.cells (scS s ca cc ta tc ga gc) 32)).alloc (.cells #[.func (.func tf) #[] tcaps] 85)).heap.size = w.heap.size + 2 := by simp
  rw [e] at h;exact h
 have HX0 : Hid _ := hx0;have HXR : Hid _ := hx2;have HKB : Hid _ := hkb;have HC := hC _ (w.heap.size + 1) hkb (Ju hx1);have hsz : w.heap.size ≤ (((w.alloc (.cells (scS s ca cc ta tc ga gc) 32)).alloc (.cells #[.func (.func tf) #[] tcaps] 85)).alloc (.cells zA 32)).heap.size := hkb.size;clear hkb hV hC hx0 hx1 hx2;go_enter Tryz.func125,Tryz.ntmps125;go_upto_region 1 with fail
 generalize (((w.alloc (.cells (scS s ca cc ta tc ga gc) 32)).alloc (.cells #[.func (.func tf) #[] tcaps] 85)).alloc (.cells zA 32)) = X at *;go_wp2_with (refine ql rfl 32 (.tmp 2) rfl w.heap.size rfl _ _ _ _ HX0.out qu rfl (by kernel_rfl) ?_)
 refine HC.mono ?_;rintro e V ⟨cv',tv',gv',rfl,hO,c2⟩;obtain ⟨a1,n1,c1,a2,n2,c2',a3,n3,c3,rfl,rfl,rfl⟩ := hO.shapes;have HO : Hid (Qo V 0 _ s' _ _ _) := hO;have HR : Hid (V.heap[w.heap.size + 2]? = _) := Grd.carry HXR.out c2;have HB : Hid (Below w.heap.size w V) := HKB.out.trans (c2.mono HKB.out.size);clear hO c2 HC;go_wp2_with (refine qh rfl 32 (.tmp 4) (.tmp 9) rfl (w.heap.size + 2) (scT s' a1 n1 c1 a2 n2 c2' a3 n3 c3) rfl rfl _ _ HR.out (by kernel_rfl) rfl (Qm _ _ _ _ _ _ _ _ _ _) ?_)
 (try simp only [qv,qw])
 refine qk (v := .tuple #[.agg (scT s' a1 n1 c1 a2 n2 c2' a3 n3 c3),.int .i64 er]) ?_ rfl ⟨_,_,_,rfl,?_,qi HB.out (by omega) _⟩
 ·exact Grd.Qd rfl _ _ (w.heap.size + 2) _ _ _ _ rfl (qj _ _ _ _ _ _ HR.out) qu rfl (by kernel_rfl) _ rfl
 ·exact (Qo.off HO.out HR.out Ql (by omega) fun k hk => qg _ _ _ _ hk).mono hsz
theorem qo8 (s s' : Scr) (cv tv gv : Value) (n : Int) (er : Int) (w0 w : World) (hV : Zh w0 s cv tv gv) (hM : w0.heap.size ≤ w.heap.size)
  (hC : ∀ (W : World) (B1 : Nat),Below w.heap.size w W → W.cell? ⟨B1,0,none⟩ = some (.int .i64 n) → Calls qP 125 #[.agg (scrA s cv tv gv),.func (.func 126) #[] #[.pointer (some ⟨B1,0,none⟩)]] W (Made w0 W s' er)) :
  Calls qP 87 #[.agg (scrA s cv tv gv),.int .i64 n] w (Made w0 w s' er) := by
 obtain ⟨ca,cc,rfl⟩ := hV.c.shape;obtain ⟨ta,tc,rfl⟩ := hV.t.slice;obtain ⟨ga,gc,rfl⟩ := hV.g.slice;have hkb : Below w.heap.size w (((w.alloc (.cells (scS s ca cc ta tc ga gc) 32)).alloc (.cells #[.int .i64 n] 3)).alloc (.cells zA 32)) := ((((qr _ _).alloc (by simp) _).alloc (by simp) _).alloc (by simp;omega) _)
 have hx0 : (w.alloc (.cells (scS s ca cc ta tc ga gc) 32)).heap[w.heap.size]? = some (.cells (scS s ca cc ta tc ga gc) 32 (0,0)) := by
  have h := qf w (.cells (scS s ca cc ta tc ga gc) 32);have e : w.heap.size = w.heap.size := by simp
  rw [e] at h;exact h
 have hx0 := (qs (w.alloc (.cells (scS s ca cc ta tc ga gc) 32)) (.cells #[.int .i64 n] 3) _ (Qc hx0)).trans hx0;have hx0 := (qs ((w.alloc (.cells (scS s ca cc ta tc ga gc) 32)).alloc (.cells #[.int .i64 n] 3)) (.cells zA 32) _ (Qc hx0)).trans hx0;have hx1 : ((w.alloc (.cells (scS s ca cc ta tc ga gc) 32)).alloc (.cells #[.int .i64 n] 3)).heap[w.heap.size + 1]? = some (.cells #[.int .i64 n] 3 (0,0)) := by
  have h := qf (w.alloc (.cells (scS s ca cc ta tc ga gc) 32)) (.cells #[.int .i64 n] 3);have e : (w.alloc (.cells (scS s ca cc ta tc ga gc) 32)).heap.size = w.heap.size + 1 := by simp
  rw [e] at h;exact h
 have hx1 := (qs ((w.alloc (.cells (scS s ca cc ta tc ga gc) 32)).alloc (.cells #[.int .i64 n] 3)) (.cells zA 32) _ (Qc hx1)).trans hx1;have hx2 : (((w.alloc (.cells (scS s ca cc ta tc ga gc) 32)).alloc (.cells #[.int .i64 n] 3)).alloc (.cells zA 32)).heap[w.heap.size + 2]? = some (.cells zA 32 (0,0)) := by
  have h := qf ((w.alloc (.cells (scS s ca cc ta tc ga gc) 32)).alloc (.cells #[.int .i64 n] 3)) (.cells zA 32);have e : ((w.alloc (.cells (scS s ca cc ta tc ga gc) 32)).alloc (.cells #[.int .i64 n] 3)).heap.size = w.heap.size + 2 := by simp
  rw [e] at h;exact h
 have HX0 : Hid _ := hx0;have HXR : Hid _ := hx2;have HKB : Hid _ := hkb;have HC := hC _ (w.heap.size + 1) hkb (Ju hx1);have hsz : w.heap.size ≤ (((w.alloc (.cells (scS s ca cc ta tc ga gc) 32)).alloc (.cells #[.int .i64 n] 3)).alloc (.cells zA 32)).heap.size := hkb.size;clear hkb hV hC hx0 hx1 hx2;go_enter Tryz.func87,Tryz.ntmps87;go_upto_region 1 with fail
 generalize (((w.alloc (.cells (scS s ca cc ta tc ga gc) 32)).alloc (.cells #[.int .i64 n] 3)).alloc (.cells zA 32)) = X at *;go_wp2_with (refine ql rfl 32 (.tmp 2) rfl w.heap.size rfl _ _ _ _ HX0.out qu rfl (by kernel_rfl) ?_)
 refine HC.mono ?_;rintro e V ⟨cv',tv',gv',rfl,hO,c2⟩;obtain ⟨a1,n1,c1,a2,n2,c2',a3,n3,c3,rfl,rfl,rfl⟩ := hO.shapes;have HO : Hid (Qo V 0 _ s' _ _ _) := hO;have HR : Hid (V.heap[w.heap.size + 2]? = _) := Grd.carry HXR.out c2;have HB : Hid (Below w.heap.size w V) := HKB.out.trans (c2.mono HKB.out.size);clear hO c2 HC;go_wp2_with (refine qh rfl 32 (.tmp 4) (.tmp 9) rfl (w.heap.size + 2) (scT s' a1 n1 c1 a2 n2 c2' a3 n3 c3) rfl rfl _ _ HR.out (by kernel_rfl) rfl (Qm _ _ _ _ _ _ _ _ _ _) ?_)
 (try simp only [qv,qw])
 refine qk (v := .tuple #[.agg (scT s' a1 n1 c1 a2 n2 c2' a3 n3 c3),.int .i64 er]) ?_ rfl ⟨_,_,_,rfl,?_,qi HB.out (by omega) _⟩
 ·exact Grd.Qd rfl _ _ (w.heap.size + 2) _ _ _ _ rfl (qj _ _ _ _ _ _ HR.out) qu rfl (by kernel_rfl) _ rfl
 ·exact (Qo.off HO.out HR.out Ql (by omega) fun k hk => qg _ _ _ _ hk).mono hsz
theorem qnw (s s' : Scr) (cv tv gv : Value) (n : Int) (er : Int) (w0 w : World) (hV : Zh w0 s cv tv gv) (hM : w0.heap.size ≤ w.heap.size)
  (hC : ∀ (W : World) (B1 : Nat),Below w.heap.size w W → W.cell? ⟨B1,0,none⟩ = some (.int .i64 n) → Calls qP 125 #[.agg (scrA s cv tv gv),.func (.func 190) #[] #[.pointer (some ⟨B1,0,none⟩)]] W (Made w0 W s' er)) :
  Calls qP 147 #[.agg (scrA s cv tv gv),.int .i64 n] w (Made w0 w s' er) := by
 obtain ⟨ca,cc,rfl⟩ := hV.c.shape;obtain ⟨ta,tc,rfl⟩ := hV.t.slice;obtain ⟨ga,gc,rfl⟩ := hV.g.slice;have hkb : Below w.heap.size w (((w.alloc (.cells (scS s ca cc ta tc ga gc) 32)).alloc (.cells #[.int .i64 n] 3)).alloc (.cells zA 32)) := ((((qr _ _).alloc (by simp) _).alloc (by simp) _).alloc (by simp;omega) _)
 have hx0 : (w.alloc (.cells (scS s ca cc ta tc ga gc) 32)).heap[w.heap.size]? = some (.cells (scS s ca cc ta tc ga gc) 32 (0,0)) := by
  have h := qf w (.cells (scS s ca cc ta tc ga gc) 32);have e : w.heap.size = w.heap.size := by simp
  rw [e] at h;exact h
 have hx0 := (qs (w.alloc (.cells (scS s ca cc ta tc ga gc) 32)) (.cells #[.int .i64 n] 3) _ (Qc hx0)).trans hx0;have hx0 := (qs ((w.alloc (.cells (scS s ca cc ta tc ga gc) 32)).alloc (.cells #[.int .i64 n] 3)) (.cells zA 32) _ (Qc hx0)).trans hx0;have hx1 : ((w.alloc (.cells (scS s ca cc ta tc ga gc) 32)).alloc (.cells #[.int .i64 n] 3)).heap[w.heap.size + 1]? = some (.cells #[.int .i64 n] 3 (0,0)) := by
  have h := qf (w.alloc (.cells (scS s ca cc ta tc ga gc) 32)) (.cells #[.int .i64 n] 3);have e : (w.alloc (.cells (scS s ca cc ta tc ga gc) 32)).heap.size = w.heap.size + 1 := by simp
  rw [e] at h;exact h
 have hx1 := (qs ((w.alloc (.cells (scS s ca cc ta tc ga gc) 32)).alloc (.cells #[.int .i64 n] 3)) (.cells zA 32) _ (Qc hx1)).trans hx1;have hx2 : (((w.alloc (.cells (scS s ca cc ta tc ga gc) 32)).alloc (.cells #[.int .i64 n] 3)).alloc (.cells zA 32)).heap[w.heap.size + 2]? = some (.cells zA 32 (0,0)) := by
  have h := qf ((w.alloc (.cells (scS s ca cc ta tc ga gc) 32)).alloc (.cells #[.int .i64 n] 3)) (.cells zA 32);have e : ((w.alloc (.cells (scS s ca cc ta tc ga gc) 32)).alloc (.cells #[.int .i64 n] 3)).heap.size = w.heap.size + 2 := by simp
  rw [e] at h;exact h
 have HX0 : Hid _ := hx0;have HXR : Hid _ := hx2;have HKB : Hid _ := hkb;have HC := hC _ (w.heap.size + 1) hkb (Ju hx1);have hsz : w.heap.size ≤ (((w.alloc (.cells (scS s ca cc ta tc ga gc) 32)).alloc (.cells #[.int .i64 n] 3)).alloc (.cells zA 32)).heap.size := hkb.size;clear hkb hV hC hx0 hx1 hx2;go_enter Tryz.func147,Tryz.ntmps147;go_upto_region 1 with fail
 generalize (((w.alloc (.cells (scS s ca cc ta tc ga gc) 32)).alloc (.cells #[.int .i64 n] 3)).alloc (.cells zA 32)) = X at *;go_wp2_with (refine ql rfl 32 (.tmp 2) rfl w.heap.size rfl _ _ _ _ HX0.out qu rfl (by kernel_rfl) ?_)
 refine HC.mono ?_;rintro e V ⟨cv',tv',gv',rfl,hO,c2⟩;obtain ⟨a1,n1,c1,a2,n2,c2',a3,n3,c3,rfl,rfl,rfl⟩ := hO.shapes;have HO : Hid (Qo V 0 _ s' _ _ _) := hO;have HR : Hid (V.heap[w.heap.size + 2]? = _) := Grd.carry HXR.out c2;have HB : Hid (Below w.heap.size w V) := HKB.out.trans (c2.mono HKB.out.size);clear hO c2 HC;go_wp2_with (refine qh rfl 32 (.tmp 4) (.tmp 9) rfl (w.heap.size + 2) (scT s' a1 n1 c1 a2 n2 c2' a3 n3 c3) rfl rfl _ _ HR.out (by kernel_rfl) rfl (Qm _ _ _ _ _ _ _ _ _ _) ?_)
 (try simp only [qv,qw])
 refine qk (v := .tuple #[.agg (scT s' a1 n1 c1 a2 n2 c2' a3 n3 c3),.int .i64 er]) ?_ rfl ⟨_,_,_,rfl,?_,qi HB.out (by omega) _⟩
 ·exact Grd.Qd rfl _ _ (w.heap.size + 2) _ _ _ _ rfl (qj _ _ _ _ _ _ HR.out) qu rfl (by kernel_rfl) _ rfl
 ·exact (Qo.off HO.out HR.out Ql (by omega) fun k hk => qg _ _ _ _ hk).mono hsz
theorem qjx (s s' : Scr) (cv tv gv : Value) (n : Int) (er : Int) (w0 w : World) (hV : Zh w0 s cv tv gv) (hM : w0.heap.size ≤ w.heap.size)
  (hC : ∀ (W : World) (B1 : Nat),Below w.heap.size w W → W.cell? ⟨B1,0,none⟩ = some (.int .i64 n) → Calls qP 125 #[.agg (scrA s cv tv gv),.func (.func 191) #[] #[.pointer (some ⟨B1,0,none⟩)]] W (Made w0 W s' er)) :
  Calls qP 148 #[.agg (scrA s cv tv gv),.int .i64 n] w (Made w0 w s' er) := by
 obtain ⟨ca,cc,rfl⟩ := hV.c.shape;obtain ⟨ta,tc,rfl⟩ := hV.t.slice;obtain ⟨ga,gc,rfl⟩ := hV.g.slice;have hkb : Below w.heap.size w (((w.alloc (.cells (scS s ca cc ta tc ga gc) 32)).alloc (.cells #[.int .i64 n] 3)).alloc (.cells zA 32)) := ((((qr _ _).alloc (by simp) _).alloc (by simp) _).alloc (by simp;omega) _)
 have hx0 : (w.alloc (.cells (scS s ca cc ta tc ga gc) 32)).heap[w.heap.size]? = some (.cells (scS s ca cc ta tc ga gc) 32 (0,0)) := by
  have h := qf w (.cells (scS s ca cc ta tc ga gc) 32);have e : w.heap.size = w.heap.size := by simp
  rw [e] at h;exact h
 have hx0 := (qs (w.alloc (.cells (scS s ca cc ta tc ga gc) 32)) (.cells #[.int .i64 n] 3) _ (Qc hx0)).trans hx0;have hx0 := (qs ((w.alloc (.cells (scS s ca cc ta tc ga gc) 32)).alloc (.cells #[.int .i64 n] 3)) (.cells zA 32) _ (Qc hx0)).trans hx0;have hx1 : ((w.alloc (.cells (scS s ca cc ta tc ga gc) 32)).alloc (.cells #[.int .i64 n] 3)).heap[w.heap.size + 1]? = some (.cells #[.int .i64 n] 3 (0,0)) := by
  have h := qf (w.alloc (.cells (scS s ca cc ta tc ga gc) 32)) (.cells #[.int .i64 n] 3);have e : (w.alloc (.cells (scS s ca cc ta tc ga gc) 32)).heap.size = w.heap.size + 1 := by simp
  rw [e] at h;exact h
 have hx1 := (qs ((w.alloc (.cells (scS s ca cc ta tc ga gc) 32)).alloc (.cells #[.int .i64 n] 3)) (.cells zA 32) _ (Qc hx1)).trans hx1;have hx2 : (((w.alloc (.cells (scS s ca cc ta tc ga gc) 32)).alloc (.cells #[.int .i64 n] 3)).alloc (.cells zA 32)).heap[w.heap.size + 2]? = some (.cells zA 32 (0,0)) := by
  have h := qf ((w.alloc (.cells (scS s ca cc ta tc ga gc) 32)).alloc (.cells #[.int .i64 n] 3)) (.cells zA 32);have e : ((w.alloc (.cells (scS s ca cc ta tc ga gc) 32)).alloc (.cells #[.int .i64 n] 3)).heap.size = w.heap.size + 2 := by simp
  rw [e] at h;exact h
 have HX0 : Hid _ := hx0;have HXR : Hid _ := hx2;have HKB : Hid _ := hkb;have HC := hC _ (w.heap.size + 1) hkb (Ju hx1);have hsz : w.heap.size ≤ (((w.alloc (.cells (scS s ca cc ta tc ga gc) 32)).alloc (.cells #[.int .i64 n] 3)).alloc (.cells zA 32)).heap.size := hkb.size;clear hkb hV hC hx0 hx1 hx2;go_enter Tryz.func148,Tryz.ntmps148;go_upto_region 1 with fail
 generalize (((w.alloc (.cells (scS s ca cc ta tc ga gc) 32)).alloc (.cells #[.int .i64 n] 3)).alloc (.cells zA 32)) = X at *;go_wp2_with (refine ql rfl 32 (.tmp 2) rfl w.heap.size rfl _ _ _ _ HX0.out qu rfl (by kernel_rfl) ?_)
 refine HC.mono ?_;rintro e V ⟨cv',tv',gv',rfl,hO,c2⟩;obtain ⟨a1,n1,c1,a2,n2,c2',a3,n3,c3,rfl,rfl,rfl⟩ := hO.shapes;have HO : Hid (Qo V 0 _ s' _ _ _) := hO;have HR : Hid (V.heap[w.heap.size + 2]? = _) := Grd.carry HXR.out c2;have HB : Hid (Below w.heap.size w V) := HKB.out.trans (c2.mono HKB.out.size);clear hO c2 HC;go_wp2_with (refine qh rfl 32 (.tmp 4) (.tmp 9) rfl (w.heap.size + 2) (scT s' a1 n1 c1 a2 n2 c2' a3 n3 c3) rfl rfl _ _ HR.out (by kernel_rfl) rfl (Qm _ _ _ _ _ _ _ _ _ _) ?_)
 (try simp only [qv,qw])
 refine qk (v := .tuple #[.agg (scT s' a1 n1 c1 a2 n2 c2' a3 n3 c3),.int .i64 er]) ?_ rfl ⟨_,_,_,rfl,?_,qi HB.out (by omega) _⟩
 ·exact Grd.Qd rfl _ _ (w.heap.size + 2) _ _ _ _ rfl (qj _ _ _ _ _ _ HR.out) qu rfl (by kernel_rfl) _ rfl
 ·exact (Qo.off HO.out HR.out Ql (by omega) fun k hk => qg _ _ _ _ hk).mono hsz
theorem quw (s s' : Scr) (cv tv gv : Value) (n : Int) (er : Int) (w0 w : World) (hV : Zh w0 s cv tv gv) (hM : w0.heap.size ≤ w.heap.size)
  (hC : ∀ (W : World) (B1 : Nat),Below w.heap.size w W → W.cell? ⟨B1,0,none⟩ = some (.int .i64 n) → Calls qP 125 #[.agg (scrA s cv tv gv),.func (.func 203) #[] #[.pointer (some ⟨B1,0,none⟩)]] W (Made w0 W s' er)) :
  Calls qP 157 #[.agg (scrA s cv tv gv),.int .i64 n] w (Made w0 w s' er) := by
 obtain ⟨ca,cc,rfl⟩ := hV.c.shape;obtain ⟨ta,tc,rfl⟩ := hV.t.slice;obtain ⟨ga,gc,rfl⟩ := hV.g.slice;have hkb : Below w.heap.size w (((w.alloc (.cells (scS s ca cc ta tc ga gc) 32)).alloc (.cells #[.int .i64 n] 3)).alloc (.cells zA 32)) := ((((qr _ _).alloc (by simp) _).alloc (by simp) _).alloc (by simp;omega) _)
 have hx0 : (w.alloc (.cells (scS s ca cc ta tc ga gc) 32)).heap[w.heap.size]? = some (.cells (scS s ca cc ta tc ga gc) 32 (0,0)) := by
  have h := qf w (.cells (scS s ca cc ta tc ga gc) 32);have e : w.heap.size = w.heap.size := by simp
  rw [e] at h;exact h
 have hx0 := (qs (w.alloc (.cells (scS s ca cc ta tc ga gc) 32)) (.cells #[.int .i64 n] 3) _ (Qc hx0)).trans hx0;have hx0 := (qs ((w.alloc (.cells (scS s ca cc ta tc ga gc) 32)).alloc (.cells #[.int .i64 n] 3)) (.cells zA 32) _ (Qc hx0)).trans hx0;have hx1 : ((w.alloc (.cells (scS s ca cc ta tc ga gc) 32)).alloc (.cells #[.int .i64 n] 3)).heap[w.heap.size + 1]? = some (.cells #[.int .i64 n] 3 (0,0)) := by
  have h := qf (w.alloc (.cells (scS s ca cc ta tc ga gc) 32)) (.cells #[.int .i64 n] 3);have e : (w.alloc (.cells (scS s ca cc ta tc ga gc) 32)).heap.size = w.heap.size + 1 := by simp
  rw [e] at h;exact h
 have hx1 := (qs ((w.alloc (.cells (scS s ca cc ta tc ga gc) 32)).alloc (.cells #[.int .i64 n] 3)) (.cells zA 32) _ (Qc hx1)).trans hx1;have hx2 : (((w.alloc (.cells (scS s ca cc ta tc ga gc) 32)).alloc (.cells #[.int .i64 n] 3)).alloc (.cells zA 32)).heap[w.heap.size + 2]? = some (.cells zA 32 (0,0)) := by
  have h := qf ((w.alloc (.cells (scS s ca cc ta tc ga gc) 32)).alloc (.cells #[.int .i64 n] 3)) (.cells zA 32);have e : ((w.alloc (.cells (scS s ca cc ta tc ga gc) 32)).alloc (.cells #[.int .i64 n] 3)).heap.size = w.heap.size + 2 := by simp
  rw [e] at h;exact h
 have HX0 : Hid _ := hx0;have HXR : Hid _ := hx2;have HKB : Hid _ := hkb;have HC := hC _ (w.heap.size + 1) hkb (Ju hx1);have hsz : w.heap.size ≤ (((w.alloc (.cells (scS s ca cc ta tc ga gc) 32)).alloc (.cells #[.int .i64 n] 3)).alloc (.cells zA 32)).heap.size := hkb.size;clear hkb hV hC hx0 hx1 hx2;go_enter Tryz.func157,Tryz.ntmps157;go_upto_region 1 with fail
 generalize (((w.alloc (.cells (scS s ca cc ta tc ga gc) 32)).alloc (.cells #[.int .i64 n] 3)).alloc (.cells zA 32)) = X at *;go_wp2_with (refine ql rfl 32 (.tmp 2) rfl w.heap.size rfl _ _ _ _ HX0.out qu rfl (by kernel_rfl) ?_)
 refine HC.mono ?_;rintro e V ⟨cv',tv',gv',rfl,hO,c2⟩;obtain ⟨a1,n1,c1,a2,n2,c2',a3,n3,c3,rfl,rfl,rfl⟩ := hO.shapes;have HO : Hid (Qo V 0 _ s' _ _ _) := hO;have HR : Hid (V.heap[w.heap.size + 2]? = _) := Grd.carry HXR.out c2;have HB : Hid (Below w.heap.size w V) := HKB.out.trans (c2.mono HKB.out.size);clear hO c2 HC;go_wp2_with (refine qh rfl 32 (.tmp 4) (.tmp 9) rfl (w.heap.size + 2) (scT s' a1 n1 c1 a2 n2 c2' a3 n3 c3) rfl rfl _ _ HR.out (by kernel_rfl) rfl (Qm _ _ _ _ _ _ _ _ _ _) ?_)
 (try simp only [qv,qw])
 refine qk (v := .tuple #[.agg (scT s' a1 n1 c1 a2 n2 c2' a3 n3 c3),.int .i64 er]) ?_ rfl ⟨_,_,_,rfl,?_,qi HB.out (by omega) _⟩
 ·exact Grd.Qd rfl _ _ (w.heap.size + 2) _ _ _ _ rfl (qj _ _ _ _ _ _ HR.out) qu rfl (by kernel_rfl) _ rfl
 ·exact (Qo.off HO.out HR.out Ql (by omega) fun k hk => qg _ _ _ _ hk).mono hsz
theorem qwv (s s' : Scr) (cv tv gv : Value) (n : Int) (er : Int) (w0 w : World) (hV : Zh w0 s cv tv gv) (hM : w0.heap.size ≤ w.heap.size)
  (hC : ∀ (W : World) (B0 B1 : Nat),Below w.heap.size w W → W.heap[B0]? = some (.cells (scrA s cv tv gv) 32 (0,0)) → W.cell? ⟨B1,0,none⟩ = some (.int .i64 n) → Calls qP 125 #[.agg (scrA s cv tv gv),.func (.func 188) #[] #[.pointer (some ⟨B1,0,none⟩),.pointer (some ⟨B0,0,none⟩)]] W (Made w0 W s' er)) :
  Calls qP 145 #[.agg (scrA s cv tv gv),.int .i64 n] w (Made w0 w s' er) := by
 obtain ⟨ca,cc,rfl⟩ := hV.c.shape;obtain ⟨ta,tc,rfl⟩ := hV.t.slice;obtain ⟨ga,gc,rfl⟩ := hV.g.slice;have hkb : Below w.heap.size w (((w.alloc (.cells (scS s ca cc ta tc ga gc) 32)).alloc (.cells #[.int .i64 n] 3)).alloc (.cells zA 32)) := ((((qr _ _).alloc (by simp) _).alloc (by simp) _).alloc (by simp;omega) _)
 have hx0 : (w.alloc (.cells (scS s ca cc ta tc ga gc) 32)).heap[w.heap.size]? = some (.cells (scS s ca cc ta tc ga gc) 32 (0,0)) := by
  have h := qf w (.cells (scS s ca cc ta tc ga gc) 32);have e : w.heap.size = w.heap.size := by simp
  rw [e] at h;exact h
 have hx0 := (qs (w.alloc (.cells (scS s ca cc ta tc ga gc) 32)) (.cells #[.int .i64 n] 3) _ (Qc hx0)).trans hx0;have hx0 := (qs ((w.alloc (.cells (scS s ca cc ta tc ga gc) 32)).alloc (.cells #[.int .i64 n] 3)) (.cells zA 32) _ (Qc hx0)).trans hx0;have hx1 : ((w.alloc (.cells (scS s ca cc ta tc ga gc) 32)).alloc (.cells #[.int .i64 n] 3)).heap[w.heap.size + 1]? = some (.cells #[.int .i64 n] 3 (0,0)) := by
  have h := qf (w.alloc (.cells (scS s ca cc ta tc ga gc) 32)) (.cells #[.int .i64 n] 3);have e : (w.alloc (.cells (scS s ca cc ta tc ga gc) 32)).heap.size = w.heap.size + 1 := by simp
  rw [e] at h;exact h
 have hx1 := (qs ((w.alloc (.cells (scS s ca cc ta tc ga gc) 32)).alloc (.cells #[.int .i64 n] 3)) (.cells zA 32) _ (Qc hx1)).trans hx1;have hx2 : (((w.alloc (.cells (scS s ca cc ta tc ga gc) 32)).alloc (.cells #[.int .i64 n] 3)).alloc (.cells zA 32)).heap[w.heap.size + 2]? = some (.cells zA 32 (0,0)) := by
  have h := qf ((w.alloc (.cells (scS s ca cc ta tc ga gc) 32)).alloc (.cells #[.int .i64 n] 3)) (.cells zA 32);have e : ((w.alloc (.cells (scS s ca cc ta tc ga gc) 32)).alloc (.cells #[.int .i64 n] 3)).heap.size = w.heap.size + 2 := by simp
  rw [e] at h;exact h
 have HX0 : Hid _ := hx0;have HXR : Hid _ := hx2;have HKB : Hid _ := hkb;have HC := hC _ w.heap.size (w.heap.size + 1) hkb hx0 (Ju hx1);have hsz : w.heap.size ≤ (((w.alloc (.cells (scS s ca cc ta tc ga gc) 32)).alloc (.cells #[.int .i64 n] 3)).alloc (.cells zA 32)).heap.size := hkb.size;clear hkb hV hC hx0 hx1 hx2;go_enter Tryz.func145,Tryz.ntmps145;go_upto_region 1 with fail
 generalize (((w.alloc (.cells (scS s ca cc ta tc ga gc) 32)).alloc (.cells #[.int .i64 n] 3)).alloc (.cells zA 32)) = X at *;go_wp2_with (refine ql rfl 32 (.tmp 2) rfl w.heap.size rfl _ _ _ _ HX0.out qu rfl (by kernel_rfl) ?_)
 refine HC.mono ?_;rintro e V ⟨cv',tv',gv',rfl,hO,c2⟩;obtain ⟨a1,n1,c1,a2,n2,c2',a3,n3,c3,rfl,rfl,rfl⟩ := hO.shapes;have HO : Hid (Qo V 0 _ s' _ _ _) := hO;have HR : Hid (V.heap[w.heap.size + 2]? = _) := Grd.carry HXR.out c2;have HB : Hid (Below w.heap.size w V) := HKB.out.trans (c2.mono HKB.out.size);clear hO c2 HC;go_wp2_with (refine qh rfl 32 (.tmp 4) (.tmp 9) rfl (w.heap.size + 2) (scT s' a1 n1 c1 a2 n2 c2' a3 n3 c3) rfl rfl _ _ HR.out (by kernel_rfl) rfl (Qm _ _ _ _ _ _ _ _ _ _) ?_)
 (try simp only [qv,qw])
 refine qk (v := .tuple #[.agg (scT s' a1 n1 c1 a2 n2 c2' a3 n3 c3),.int .i64 er]) ?_ rfl ⟨_,_,_,rfl,?_,qi HB.out (by omega) _⟩
 ·exact Grd.Qd rfl _ _ (w.heap.size + 2) _ _ _ _ rfl (qj _ _ _ _ _ _ HR.out) qu rfl (by kernel_rfl) _ rfl
 ·exact (Qo.off HO.out HR.out Ql (by omega) fun k hk => qg _ _ _ _ hk).mono hsz
theorem down_calls (s s' : Scr) (cv tv gv : Value) (n : Int) (er : Int) (w0 w : World) (hV : Zh w0 s cv tv gv) (hM : w0.heap.size ≤ w.heap.size)
  (hC : ∀ (W : World) (B0 B1 : Nat),Below w.heap.size w W → W.heap[B0]? = some (.cells (scrA s cv tv gv) 32 (0,0)) → W.cell? ⟨B1,0,none⟩ = some (.int .i64 n) → Calls qP 125 #[.agg (scrA s cv tv gv),.func (.func 189) #[] #[.pointer (some ⟨B1,0,none⟩),.pointer (some ⟨B0,0,none⟩)]] W (Made w0 W s' er)) :
  Calls qP 146 #[.agg (scrA s cv tv gv),.int .i64 n] w (Made w0 w s' er) := by
 obtain ⟨ca,cc,rfl⟩ := hV.c.shape;obtain ⟨ta,tc,rfl⟩ := hV.t.slice;obtain ⟨ga,gc,rfl⟩ := hV.g.slice;have hkb : Below w.heap.size w (((w.alloc (.cells (scS s ca cc ta tc ga gc) 32)).alloc (.cells #[.int .i64 n] 3)).alloc (.cells zA 32)) := ((((qr _ _).alloc (by simp) _).alloc (by simp) _).alloc (by simp;omega) _)
 have hx0 : (w.alloc (.cells (scS s ca cc ta tc ga gc) 32)).heap[w.heap.size]? = some (.cells (scS s ca cc ta tc ga gc) 32 (0,0)) := by
  have h := qf w (.cells (scS s ca cc ta tc ga gc) 32);have e : w.heap.size = w.heap.size := by simp
  rw [e] at h;exact h
 have hx0 := (qs (w.alloc (.cells (scS s ca cc ta tc ga gc) 32)) (.cells #[.int .i64 n] 3) _ (Qc hx0)).trans hx0;have hx0 := (qs ((w.alloc (.cells (scS s ca cc ta tc ga gc) 32)).alloc (.cells #[.int .i64 n] 3)) (.cells zA 32) _ (Qc hx0)).trans hx0;have hx1 : ((w.alloc (.cells (scS s ca cc ta tc ga gc) 32)).alloc (.cells #[.int .i64 n] 3)).heap[w.heap.size + 1]? = some (.cells #[.int .i64 n] 3 (0,0)) := by
  have h := qf (w.alloc (.cells (scS s ca cc ta tc ga gc) 32)) (.cells #[.int .i64 n] 3);have e : (w.alloc (.cells (scS s ca cc ta tc ga gc) 32)).heap.size = w.heap.size + 1 := by simp
  rw [e] at h;exact h
 have hx1 := (qs ((w.alloc (.cells (scS s ca cc ta tc ga gc) 32)).alloc (.cells #[.int .i64 n] 3)) (.cells zA 32) _ (Qc hx1)).trans hx1;have hx2 : (((w.alloc (.cells (scS s ca cc ta tc ga gc) 32)).alloc (.cells #[.int .i64 n] 3)).alloc (.cells zA 32)).heap[w.heap.size + 2]? = some (.cells zA 32 (0,0)) := by
  have h := qf ((w.alloc (.cells (scS s ca cc ta tc ga gc) 32)).alloc (.cells #[.int .i64 n] 3)) (.cells zA 32);have e : ((w.alloc (.cells (scS s ca cc ta tc ga gc) 32)).alloc (.cells #[.int .i64 n] 3)).heap.size = w.heap.size + 2 := by simp
  rw [e] at h;exact h
 have HX0 : Hid _ := hx0;have HXR : Hid _ := hx2;have HKB : Hid _ := hkb;have HC := hC _ w.heap.size (w.heap.size + 1) hkb hx0 (Ju hx1);have hsz : w.heap.size ≤ (((w.alloc (.cells (scS s ca cc ta tc ga gc) 32)).alloc (.cells #[.int .i64 n] 3)).alloc (.cells zA 32)).heap.size := hkb.size;clear hkb hV hC hx0 hx1 hx2;go_enter Tryz.func146,Tryz.ntmps146;go_upto_region 1 with fail
 generalize (((w.alloc (.cells (scS s ca cc ta tc ga gc) 32)).alloc (.cells #[.int .i64 n] 3)).alloc (.cells zA 32)) = X at *;go_wp2_with (refine ql rfl 32 (.tmp 2) rfl w.heap.size rfl _ _ _ _ HX0.out qu rfl (by kernel_rfl) ?_)
 refine HC.mono ?_;rintro e V ⟨cv',tv',gv',rfl,hO,c2⟩;obtain ⟨a1,n1,c1,a2,n2,c2',a3,n3,c3,rfl,rfl,rfl⟩ := hO.shapes;have HO : Hid (Qo V 0 _ s' _ _ _) := hO;have HR : Hid (V.heap[w.heap.size + 2]? = _) := Grd.carry HXR.out c2;have HB : Hid (Below w.heap.size w V) := HKB.out.trans (c2.mono HKB.out.size);clear hO c2 HC;go_wp2_with (refine qh rfl 32 (.tmp 4) (.tmp 9) rfl (w.heap.size + 2) (scT s' a1 n1 c1 a2 n2 c2' a3 n3 c3) rfl rfl _ _ HR.out (by kernel_rfl) rfl (Qm _ _ _ _ _ _ _ _ _ _) ?_)
 (try simp only [qv,qw])
 refine qk (v := .tuple #[.agg (scT s' a1 n1 c1 a2 n2 c2' a3 n3 c3),.int .i64 er]) ?_ rfl ⟨_,_,_,rfl,?_,qi HB.out (by omega) _⟩
 ·exact Grd.Qd rfl _ _ (w.heap.size + 2) _ _ _ _ rfl (qj _ _ _ _ _ _ HR.out) qu rfl (by kernel_rfl) _ rfl
 ·exact (Qo.off HO.out HR.out Ql (by omega) fun k hk => qg _ _ _ _ hk).mono hsz
theorem qyw (s s' : Scr) (cv tv gv : Value) (a : Int) (b : Int) (er : Int) (w0 w : World) (hV : Zh w0 s cv tv gv) (hM : w0.heap.size ≤ w.heap.size)
  (hC : ∀ (W : World) (B1 B2 : Nat),Below w.heap.size w W → W.cell? ⟨B1,0,none⟩ = some (.int .i64 a) → W.cell? ⟨B2,0,none⟩ = some (.int .i64 b) → Calls qP 125 #[.agg (scrA s cv tv gv),.func (.func 213) #[] #[.pointer (some ⟨B1,0,none⟩),.pointer (some ⟨B2,0,none⟩)]] W (Made w0 W s' er)) :
  Calls qP 162 #[.agg (scrA s cv tv gv),.int .i64 a,.int .i64 b] w (Made w0 w s' er) := by
 obtain ⟨ca,cc,rfl⟩ := hV.c.shape;obtain ⟨ta,tc,rfl⟩ := hV.t.slice;obtain ⟨ga,gc,rfl⟩ := hV.g.slice;have hkb : Below w.heap.size w ((((w.alloc (.cells (scS s ca cc ta tc ga gc) 32)).alloc (.cells #[.int .i64 a] 3)).alloc (.cells #[.int .i64 b] 3)).alloc (.cells zA 32)) := (((((qr _ _).alloc (by simp) _).alloc (by simp) _).alloc (by simp;omega) _).alloc (by simp;omega) _)
 have hx0 : (w.alloc (.cells (scS s ca cc ta tc ga gc) 32)).heap[w.heap.size]? = some (.cells (scS s ca cc ta tc ga gc) 32 (0,0)) := by
  have h := qf w (.cells (scS s ca cc ta tc ga gc) 32);have e : w.heap.size = w.heap.size := by simp
  rw [e] at h;exact h
 have hx0 := (qs (w.alloc (.cells (scS s ca cc ta tc ga gc) 32)) (.cells #[.int .i64 a] 3) _ (Qc hx0)).trans hx0;have hx0 := (qs ((w.alloc (.cells (scS s ca cc ta tc ga gc) 32)).alloc (.cells #[.int .i64 a] 3)) (.cells #[.int .i64 b] 3) _ (Qc hx0)).trans hx0;have hx0 := (qs (((w.alloc (.cells (scS s ca cc ta tc ga gc) 32)).alloc (.cells #[.int .i64 a] 3)).alloc (.cells #[.int .i64 b] 3)) (.cells zA 32) _ (Qc hx0)).trans hx0;have hx1 : ((w.alloc (.cells (scS s ca cc ta tc ga gc) 32)).alloc (.cells #[.int .i64 a] 3)).heap[w.heap.size + 1]? = some (.cells #[.int .i64 a] 3 (0,0)) := by
  have h := qf (w.alloc (.cells (scS s ca cc ta tc ga gc) 32)) (.cells #[.int .i64 a] 3);have e : (w.alloc (.cells (scS s ca cc ta tc ga gc) 32)).heap.size = w.heap.size + 1 := by simp
  rw [e] at h;exact h
 have hx1 := (qs ((w.alloc (.cells (scS s ca cc ta tc ga gc) 32)).alloc (.cells #[.int .i64 a] 3)) (.cells #[.int .i64 b] 3) _ (Qc hx1)).trans hx1;have hx1 := (qs (((w.alloc (.cells (scS s ca cc ta tc ga gc) 32)).alloc (.cells #[.int .i64 a] 3)).alloc (.cells #[.int .i64 b] 3)) (.cells zA 32) _ (Qc hx1)).trans hx1;have hx2 : (((w.alloc (.cells (scS s ca cc ta tc ga gc) 32)).alloc (.cells #[.int .i64 a] 3)).alloc (.cells #[.int .i64 b] 3)).heap[w.heap.size + 2]? = some (.cells #[.int .i64 b] 3 (0,0)) := by
  have h := qf ((w.alloc (.cells (scS s ca cc ta tc ga gc) 32)).alloc (.cells #[.int .i64 a] 3)) (.cells #[.int .i64 b] 3);have e : ((w.alloc (.cells (scS s ca cc ta tc ga gc) 32)).alloc (.cells #[.int .i64 a] 3)).heap.size = w.heap.size + 2 := by simp
  rw [e] at h;exact h
 have hx2 := (qs (((w.alloc (.cells (scS s ca cc ta tc ga gc) 32)).alloc (.cells #[.int .i64 a] 3)).alloc (.cells #[.int .i64 b] 3)) (.cells zA 32) _ (Qc hx2)).trans hx2;have hx3 : ((((w.alloc (.cells (scS s ca cc ta tc ga gc) 32)).alloc (.cells #[.int .i64 a] 3)).alloc (.cells #[.int .i64 b] 3)).alloc (.cells zA 32)).heap[w.heap.size + 3]? = some (.cells zA 32 (0,0)) := by
  have h := qf (((w.alloc (.cells (scS s ca cc ta tc ga gc) 32)).alloc (.cells #[.int .i64 a] 3)).alloc (.cells #[.int .i64 b] 3)) (.cells zA 32);have e : (((w.alloc (.cells (scS s ca cc ta tc ga gc) 32)).alloc (.cells #[.int .i64 a] 3)).alloc (.cells #[.int .i64 b] 3)).heap.size = w.heap.size + 3 := by simp
  rw [e] at h;exact h
 have HX0 : Hid _ := hx0;have HXR : Hid _ := hx3;have HKB : Hid _ := hkb;have HC := hC _ (w.heap.size + 1) (w.heap.size + 2) hkb (Ju hx1) (Ju hx2);have hsz : w.heap.size ≤ ((((w.alloc (.cells (scS s ca cc ta tc ga gc) 32)).alloc (.cells #[.int .i64 a] 3)).alloc (.cells #[.int .i64 b] 3)).alloc (.cells zA 32)).heap.size := hkb.size;clear hkb hV hC hx0 hx1 hx2 hx3;go_enter Tryz.func162,Tryz.ntmps162;go_upto_region 1 with fail
 generalize ((((w.alloc (.cells (scS s ca cc ta tc ga gc) 32)).alloc (.cells #[.int .i64 a] 3)).alloc (.cells #[.int .i64 b] 3)).alloc (.cells zA 32)) = X at *;go_wp2_with (refine ql rfl 32 (.tmp 3) rfl w.heap.size rfl _ _ _ _ HX0.out qu rfl (by kernel_rfl) ?_)
 refine HC.mono ?_;rintro e V ⟨cv',tv',gv',rfl,hO,c2⟩;obtain ⟨a1,n1,c1,a2,n2,c2',a3,n3,c3,rfl,rfl,rfl⟩ := hO.shapes;have HO : Hid (Qo V 0 _ s' _ _ _) := hO;have HR : Hid (V.heap[w.heap.size + 3]? = _) := Grd.carry HXR.out c2;have HB : Hid (Below w.heap.size w V) := HKB.out.trans (c2.mono HKB.out.size);clear hO c2 HC;go_wp2_with (refine qh rfl 32 (.tmp 6) (.tmp 11) rfl (w.heap.size + 3) (scT s' a1 n1 c1 a2 n2 c2' a3 n3 c3) rfl rfl _ _ HR.out (by kernel_rfl) rfl (Qm _ _ _ _ _ _ _ _ _ _) ?_)
 (try simp only [qv,qw])
 refine qk (v := .tuple #[.agg (scT s' a1 n1 c1 a2 n2 c2' a3 n3 c3),.int .i64 er]) ?_ rfl ⟨_,_,_,rfl,?_,qi HB.out (by omega) _⟩
 ·exact Grd.Qd rfl _ _ (w.heap.size + 3) _ _ _ _ rfl (qj _ _ _ _ _ _ HR.out) qu rfl (by kernel_rfl) _ rfl
 ·exact (Qo.off HO.out HR.out Ql (by omega) fun k hk => qg _ _ _ _ hk).mono hsz
theorem qkg (s s' : Scr) (cv tv gv : Value) (er : Int) (w0 w : World) (hV : Zh w0 s cv tv gv) (hM : w0.heap.size ≤ w.heap.size)
  (hC : ∀ (W : World) (_B : Nat),Below w.heap.size w W → Calls qP 125 #[.agg (scrA s cv tv gv),.func (.func 131) #[] #[]] W (Made w0 W s' er)) :
  Calls qP 91 #[.agg (scrA s cv tv gv)] w (Made w0 w s' er) := by
 obtain ⟨ca,cc,rfl⟩ := hV.c.shape;obtain ⟨ta,tc,rfl⟩ := hV.t.slice;obtain ⟨ga,gc,rfl⟩ := hV.g.slice;have hkb : Below w.heap.size w ((w.alloc (.cells (scS s ca cc ta tc ga gc) 32)).alloc (.cells zA 32)) := (((qr _ _).alloc (by simp) _).alloc (by simp) _)
 have hx0 : (w.alloc (.cells (scS s ca cc ta tc ga gc) 32)).heap[w.heap.size]? = some (.cells (scS s ca cc ta tc ga gc) 32 (0,0)) := by
  have h := qf w (.cells (scS s ca cc ta tc ga gc) 32);have e : w.heap.size = w.heap.size := by simp
  rw [e] at h;exact h
 have hx0 := (qs (w.alloc (.cells (scS s ca cc ta tc ga gc) 32)) (.cells zA 32) _ (Qc hx0)).trans hx0;have hx1 : ((w.alloc (.cells (scS s ca cc ta tc ga gc) 32)).alloc (.cells zA 32)).heap[w.heap.size + 1]? = some (.cells zA 32 (0,0)) := by
  have h := qf (w.alloc (.cells (scS s ca cc ta tc ga gc) 32)) (.cells zA 32);have e : (w.alloc (.cells (scS s ca cc ta tc ga gc) 32)).heap.size = w.heap.size + 1 := by simp
  rw [e] at h;exact h
 have HX0 : Hid _ := hx0;have HXR : Hid _ := hx1;have HKB : Hid _ := hkb;have HC := hC _ 0 hkb;have hsz : w.heap.size ≤ ((w.alloc (.cells (scS s ca cc ta tc ga gc) 32)).alloc (.cells zA 32)).heap.size := hkb.size;clear hkb hV hC hx0 hx1;go_enter Tryz.func91,Tryz.ntmps91;go_upto_region 1 with fail
 generalize ((w.alloc (.cells (scS s ca cc ta tc ga gc) 32)).alloc (.cells zA 32)) = X at *;go_wp2_with (refine ql rfl 32 (.tmp 1) rfl w.heap.size rfl _ _ _ _ HX0.out qu rfl (by kernel_rfl) ?_)
 refine HC.mono ?_;rintro e V ⟨cv',tv',gv',rfl,hO,c2⟩;obtain ⟨a1,n1,c1,a2,n2,c2',a3,n3,c3,rfl,rfl,rfl⟩ := hO.shapes;have HO : Hid (Qo V 0 _ s' _ _ _) := hO;have HR : Hid (V.heap[w.heap.size + 1]? = _) := Grd.carry HXR.out c2;have HB : Hid (Below w.heap.size w V) := HKB.out.trans (c2.mono HKB.out.size);clear hO c2 HC;go_wp2_with (refine qh rfl 32 (.tmp 2) (.tmp 6) rfl (w.heap.size + 1) (scT s' a1 n1 c1 a2 n2 c2' a3 n3 c3) rfl rfl _ _ HR.out (by kernel_rfl) rfl (Qm _ _ _ _ _ _ _ _ _ _) ?_)
 (try simp only [qv,qw])
 refine qk (v := .tuple #[.agg (scT s' a1 n1 c1 a2 n2 c2' a3 n3 c3),.int .i64 er]) ?_ rfl ⟨_,_,_,rfl,?_,qi HB.out (by omega) _⟩
 ·exact Grd.Qd rfl _ _ (w.heap.size + 1) _ _ _ _ rfl (qj _ _ _ _ _ _ HR.out) qu rfl (by kernel_rfl) _ rfl
 ·exact (Qo.off HO.out HR.out Ql (by omega) fun k hk => qg _ _ _ _ hk).mono hsz
end Put
namespace Put
open Grd (C SliceAt Qb Qf z0 Q0 flat Qe)
structure Came (w0 w : World) (s : Scr) (cv tv gv : Value) : Prop where
 t : Txt.Tab w
 v : Zh w0 s cv tv gv
 b : Below w0.heap.size w0 w
 f : Fits s
theorem Came.next {w0 w W : World} {s : Scr} {cv tv gv : Value} (h : Came w0 w s cv tv gv) (hb : Below w.heap.size w W) : Came w0 W s cv tv gv := ⟨Grd.Tab.next h.t hb,h.v,h.b.trans (hb.mono h.b.size),h.f⟩
def q11 (df : FuncId) (caps : Array Value) (w0 w : World) (n hh : Nat) (s s' : Scr) (rows' : List (List C)) : Prop := ∀ w1,Below w.heap.size w w1 → Does df caps w0.heap.size w1 s s' (Qe n s.cs hh) rows'
theorem F5 {w0 w : World} {s s' : Scr} {cv tv gv : Value} {n hh : Nat} (h : Came w0 w s cv tv gv) (hz : Qj s = 0) (hR : Qg s n hh) (df : FuncId) (hpl : Plain df) (caps : Array Value) (rows' : List (List C)) (cs' : List C) (hM : q11 df caps w0 w n hh s s' rows') (hO : V6 s' rows') (hcs : rows'.flatten = cs') :
  Calls qP 135 #[.agg (scrA s cv tv gv),.func (.func df) #[] caps] w (Made w0 w { s' with cs := cs' } (Qj s)) :=
 qnj s _ cv tv gv df caps w0 w h.t h.v h.b h.f fun W hW => by
  rw [hz];exact Jl n hh s s' rows' cv tv gv df hpl caps w0 W h.v (h.b.trans (hW.mono h.b.size)) h.f hR.w hR.h hR.gz (fun w1 hw1 => hM w1 (hW.trans (hw1.mono hW.size))) hO cs' hcs
theorem qoi : Plain 179 := by
 intro args W
 kernel_rfl
theorem Jq {w0 w : World} {s s1 : Scr} {cv tv gv : Value} {n hh : Nat} (h : Came w0 w s cv tv gv) (hz : Qj s = 0) (hR : Qg s n hh) (tf : FuncId) (hpl : Plain tf) (tcaps : Array Value)
  (hM : ∀ w1,Below w.heap.size w w1 → Does tf tcaps w0.heap.size w1 (Vj s) s1 (Qe n s.cs hh) (Qe n s.cs hh)) (hw : s1.w = s.w) (hh' : s1.h = s.h) (hg : s1.gone = s.gone) :
  Calls qP 125 #[.agg (scrA s cv tv gv),.func (.func tf) #[] tcaps] w (Made w0 w { qj1 s1 with cs := s.cs } 0) := by
 have n1 := hR.n1;have n2 := hR.n2;have h1 := hR.h1;have h2 := hR.h2;have ew := hR.w;have eh := hR.h;rw [← hz];exact qlo s _ cv tv gv tf tcaps (Qj s) w0 w h.v h.b.size fun W B hW hB => F5 (h.next hW) hz hR _ qoi _ (Qe n s.cs hh) s.cs (fun w1 hw1 => qqa tf hpl tcaps B _ w1 s s1 _ _ (Qa hw1 hB) (hM w1 (hW.trans (hw1.mono hW.size))) (by omega) (by omega) (by omega) (by omega)) (hR.rows hg) hR.flatten
end Put
namespace Put
open Grd (C)
theorem qte (n : Int) (B M : Nat) (w : World) (s : Scr) (rows : List (List C)) (hB : w.cell? ⟨B, 0, none⟩ = some (.int .i64 n)) (h0 : 0 ≤ s.x) (h1 : s.x ≤ 120) :
  Does 126 #[.pointer (some ⟨B,0,none⟩)] M w s { s with x := s.x - cnt n } rows rows := by
 intro W p hb hS;have hc := Xw n;obtain ⟨c0,c1,c3,c4,c5,c9,c10,c11,c19,f⟩ := hS.words;have f3 := f 3;have q0 := Qa hb hB;have HE : Hid (∀ v',v' = Value.int .i64 (s.x - cnt n) → ShAt 110 (W.setCell ⟨p,3,none⟩ v').drew M w.heap.size p { s with x := s.x - cnt n } rows ∧ Below w.heap.size W (W.setCell ⟨p,3,none⟩ v').drew) := hS.fin Qp 3 _ (fun _ _ _ _ => rfl) rfl rfl
 have HC : Hid (∀ W,Calls qP 127 #[.int .i64 n] W fun e w' => e = .returned (.int .i64 (cnt n)) ∧ W = w') := fun W => Yf n W
 clear hS hb hB c0 c1 c4 c5 c9 c10 c11 c19 f;generalize cnt n = k at *;go_enter Tryz.func126,Tryz.ntmps126;go_upto_region 0 with fail
 go_region_with (first | (go_at_call 127;refine (HC.out _).mono ?_;rintro e V ⟨rfl,hv⟩;subst hv))
 all_goals go_end0
 all_goals exact ⟨rfl,HE.out _ (qcp _ (by omega) (by omega))⟩
theorem qo5 (n : Int) (B M : Nat) (w : World) (s : Scr) (rows : List (List C)) (hB : w.cell? ⟨B, 0, none⟩ = some (.int .i64 n)) (h0 : 0 ≤ s.x) (h1 : s.x ≤ 120) :
  Does 190 #[.pointer (some ⟨B,0,none⟩)] M w s { s with x := s.x + cnt n } rows rows := by
 intro W p hb hS;have hc := Xw n;obtain ⟨c0,c1,c3,c4,c5,c9,c10,c11,c19,f⟩ := hS.words;have f3 := f 3;have q0 := Qa hb hB;have HE : Hid (∀ v',v' = Value.int .i64 (s.x + cnt n) → ShAt 110 (W.setCell ⟨p,3,none⟩ v').drew M w.heap.size p { s with x := s.x + cnt n } rows ∧ Below w.heap.size W (W.setCell ⟨p,3,none⟩ v').drew) := hS.fin Qp 3 _ (fun _ _ _ _ => rfl) rfl rfl
 have HC : Hid (∀ W,Calls qP 127 #[.int .i64 n] W fun e w' => e = .returned (.int .i64 (cnt n)) ∧ W = w') := fun W => Yf n W
 clear hS hb hB c0 c1 c4 c5 c9 c10 c11 c19 f;generalize cnt n = k at *;go_enter Tryz.func190,Tryz.ntmps190;go_upto_region 0 with fail
 go_region_with (first | (go_at_call 127;refine (HC.out _).mono ?_;rintro e V ⟨rfl,hv⟩;subst hv))
 all_goals go_end0
 all_goals exact ⟨rfl,HE.out _ (qcp _ (by omega) (by omega))⟩
theorem qcb {M N p : Nat} {s : Scr} {rows : List (List C)} (n : Int) (W : World) (hS : ShAt 110 W M N p s rows) : Calls qP 192 #[.pointer (some ⟨p,0,none⟩),.int .i64 n] W fun e W' => e = .returned (.tuple #[]) ∧ ShAt 110 W' M N p { s with x := cnt n - 1 } rows ∧ Below N W W' := by
 obtain ⟨c0,c1,c3,c4,c5,c9,c10,c11,c19,f⟩ := hS.words;have f3 := f 3;have hc := Xw n;have H1 := Yf n W;have HE : Hid (ShAt 110 (W.setCell ⟨p,3,none⟩ (.int .i64 (cnt n - 1))) M N p { s with x := cnt n - 1 } rows ∧ Below N W (W.setCell ⟨p,3,none⟩ (.int .i64 (cnt n - 1)))) := ⟨hS.set Qp 3 _ (fun _ _ _ _ => rfl) rfl rfl,(qr _ _).setCell hS.lo _⟩
 clear c0 c1 c4 c5 c9 c10 c11 c19 f hS;generalize cnt n = k at *;go_enter Tryz.func192,Tryz.ntmps192;go_wp2_with fail;refine H1.mono ?_;rintro e V ⟨rfl,hv⟩;subst hv;go_wp2_with fail;go_end0;exact ⟨rfl,HE.out⟩
def qc9 (s : Scr) (n : Int) : Int := if hasB s.modes 2 then min (s.top + (cnt n - 1)) s.bot else cnt n - 1
theorem qiz {M N p : Nat} {s : Scr} {rows : List (List C)} (n : Int) (W : World) (hS : ShAt 110 W M N p s rows) (h0 : 0 ≤ s.top) (h1 : s.top ≤ 60) : Calls qP 204 #[.pointer (some ⟨p,0,none⟩),.int .i64 n] W fun e W' => e = .returned (.tuple #[]) ∧ ShAt 110 W' M N p { s with y := qc9 s n } rows ∧ Below N W W' := by
 obtain ⟨c0,c1,c3,c4,c5,c9,c10,c11,c19,f⟩ := hS.words;have f4 := f 4;have hc := Xw n;have H1 := Yf n W;have hS1 : ShAt 110 (W.setCell ⟨p,4,none⟩ (.int .i64 (cnt n - 1))) M N p { s with y := cnt n - 1 } rows := hS.set Qp 4 _ (fun _ _ _ _ => rfl) rfl rfl
 have hB1 : Below N W (W.setCell ⟨p,4,none⟩ (.int .i64 (cnt n - 1))) := (qr _ _).setCell hS.lo _;have H2 := Kk 2 _ hS1;have HR : Hid (qc9 s n = if hasB s.modes 2 then min (s.top + (cnt n - 1)) s.bot else cnt n - 1) := rfl
 have hlo := hS.lo;clear c0 c1 c5 c9 c10 c11 c19 f hS;generalize qc9 s n = rt at *;generalize cnt n = k at *
 cases hb : hasB s.modes 2 with
 | false =>
  rw [hb] at H2 HR;go_enter Tryz.func204,Tryz.ntmps204;go_wp2_with fail;refine H1.mono ?_;rintro e V ⟨rfl,hv⟩;subst hv;go_wp2_with fail;refine H2.mono ?_;rintro e V ⟨rfl,hv⟩;subst hv;go_wp2_with fail;go_end0;refine ⟨rfl,?_,hB1⟩;rw [HR.out];exact hS1
 | true =>
  rw [hb] at H2;rw [hb] at HR;have hmin := Grd.min2 (s.top + (k - 1)) s.bot;have HS1 : Hid (ShAt 110 (W.setCell ⟨p,4,none⟩ (.int .i64 (k - 1))) M N p { s with y := k - 1 } rows) := hS1
  have HB1 : Hid (Below N W (W.setCell ⟨p,4,none⟩ (.int .i64 (k - 1)))) := hB1;have HE : Hid (∀ v',v' = Value.int .i64 (min (s.top + (k - 1)) s.bot) → ShAt 110 ((W.setCell ⟨p,4,none⟩ (.int .i64 (k - 1))).setCell ⟨p,4,none⟩ v').drew M N p { s with y := min (s.top + (k - 1)) s.bot } rows ∧ Below N (W.setCell ⟨p,4,none⟩ (.int .i64 (k - 1))) ((W.setCell ⟨p,4,none⟩ (.int .i64 (k - 1))).setCell ⟨p,4,none⟩ v').drew) := hS1.fin Qp 4 _ (fun _ _ _ _ => rfl) rfl rfl
  clear hS1 hB1;go_enter Tryz.func204,Tryz.ntmps204;go_wp2_with fail;refine H1.mono ?_;rintro e V ⟨rfl,hv⟩;subst hv;go_wp2_with fail;refine H2.mono ?_;rintro e V ⟨rfl,hv⟩;subst hv;go_upto_region 2 with fail
  obtain ⟨c0,c1,c3,d4,c5,c9,c10,c11,c19,f⟩ := HS1.out.words;have g4 := f 4;clear c0 c1 c3 c5 c11 c19 f c4 f4;have hsum : IntKind.i64.wrap (s.top + (k - 1)) = s.top + (k - 1) := Zl _ (by omega) (by omega)
  generalize (W.setCell ⟨p,4,none⟩ (.int .i64 (k - 1))) = X at *;go_region
  all_goals go_end0
  all_goals refine ⟨rfl,?_⟩
  all_goals rw [HR.out,if_pos trivial]
  all_goals exact ⟨(HE.out _ rfl).1,HB1.out.trans (HE.out _ rfl).2⟩
theorem q0r (a b : Int) (B1 B2 M : Nat) (w : World) (s : Scr) (rows : List (List C)) (hB1 : w.cell? ⟨B1, 0, none⟩ = some (.int .i64 a)) (hB2 : w.cell? ⟨B2, 0, none⟩ = some (.int .i64 b)) (h0 : 0 ≤ s.top) (h1 : s.top ≤ 60) :
  Does 213 #[.pointer (some ⟨B1,0,none⟩),.pointer (some ⟨B2,0,none⟩)] M w s { s with y := qc9 s a,x := cnt b - 1 } rows rows := by
 intro W p hb hS;have q1 := Qa hb hB1;have q2 : ∀ W',Below w.heap.size W W' → W'.cell? ⟨B2,0,none⟩ = some (.int .i64 b) := fun W' h => Qa (hb.trans h) hB2
 have H1 := qiz a W hS h0 h1;clear hS hB1 hB2;go_enter Tryz.func213,Tryz.ntmps213;go_wp2_with fail;refine H1.mono ?_;rintro e W1 ⟨rfl,hS1,b1⟩;have q3 := q2 W1 b1;have H2 := qcb b W1 hS1;clear q1 q2 hS1 H1;go_wp2_with fail;refine H2.mono ?_;rintro e W2 ⟨rfl,hS2,b2⟩;go_wp2_with fail;go_end0;exact ⟨rfl,hS2,b1.trans b2⟩
end Put
namespace Put
open Grd (C SliceAt Qb Qf z0 Q0 flat Qe)
open Txt (wd)
def Ji (s : Scr) (x y : Int) : Scr := { s with late := false,x := Xt x 0 (s.w - 1),y := Xt y 0 (s.h - 1) }
theorem Xn {s : Scr} {n hh : Nat} (h : Qg s n hh) : Qj s = 0 := by
 have hz := h.gz;rw [← h.w,← h.h] at hz;have hp : Vb s = true := by
  have := h.w;have := h.h;have := h.x0;have := h.x1;have := h.y0;have := h.y1;have := h.kx0;have := h.kx1;have := h.ky0;have := h.ky1;have := h.t0;have := h.t1;have := h.t2;have := h.t3;simp only [Vb,hasC,Kz,Bool.and_eq_true,Bool.or_eq_true,decide_eq_true_eq];omega
 have hr : Xo s = true := by
  simp only [Xo,Bool.and_eq_true,Bool.or_eq_true,Bool.not_eq_true',decide_eq_true_eq,decide_eq_false_iff_not];exact ⟨by rw [h.w,h.tl],h.la,h.ti⟩
 have hg : X8 s.gone = 0 := by
  unfold X8;rw [if_neg (by have := h.gl;omega)]
  have hb : Xu s.gone = false := by
   unfold Xu;rw [List.any_eq_false];intro row hrow;simp [h.gr row hrow]
  rw [hb]
  rfl
 unfold Qj;rw [if_neg (by rw [hz];simp),if_neg (by rw [hp];simp),if_neg (by rw [h.late];simp),if_neg (by rw [h.looks];simp),if_neg (by rw [hr];simp),hg]
theorem Xk {s : Scr} {n hh : Nat} (h : Qg s n hh) (x y : Int) : Qg (Ji s x y) n hh := by
 have n1 := h.n1;have h1 := h.h1;have ew := h.w;have eh := h.h;have hx : 0 ≤ Xt x 0 (s.w - 1) ∧ Xt x 0 (s.w - 1) < n := by unfold Xt;omega
 have hy : 0 ≤ Xt y 0 (s.h - 1) ∧ Xt y 0 (s.h - 1) < hh := by unfold Xt;omega
 exact ⟨h.w,h.h,h.n1,h.n2,h.h1,h.h2,h.cl,h.gz,hx.1,hx.2,hy.1,hy.2,h.kx0,h.kx1,h.ky0,h.ky1,h.t0,h.t1,h.t2,h.t3,rfl,h.looks,h.tl,h.la,h.ti,h.gl,h.gr⟩
theorem ql2 : Plain 190 := by
 intro args W
 kernel_rfl
theorem qtw {w0 w : World} {s : Scr} {cv tv gv : Value} {n hh : Nat} (h : Came w0 w s cv tv gv) (hR : Qg s n hh) (k : Int) : Calls qP 147 #[.agg (scrA s cv tv gv),.int .i64 k] w (Made w0 w (Ji s (s.x + cnt k) s.y) 0) := by
 have h1 := hR.x0;have h2 := hR.x1;have h3 := hR.n2;exact qnw s _ cv tv gv k 0 w0 w h.v h.b.size fun W B hW hB => Jq (h.next hW) (Xn hR) hR _ ql2 _ (fun w1 hw1 => qo5 k B _ w1 (Vj s) _ (Qa hw1 hB) h1 (by show s.x ≤ 120;omega)) rfl rfl rfl
theorem qpn : Plain 126 := by
 intro args W
 kernel_rfl
theorem qv7 {w0 w : World} {s : Scr} {cv tv gv : Value} {n hh : Nat} (h : Came w0 w s cv tv gv) (hR : Qg s n hh) (k : Int) : Calls qP 87 #[.agg (scrA s cv tv gv),.int .i64 k] w (Made w0 w (Ji s (s.x - cnt k) s.y) 0) := by
 have h1 := hR.x0;have h2 := hR.x1;have h3 := hR.n2;exact qo8 s _ cv tv gv k 0 w0 w h.v h.b.size fun W B hW hB => Jq (h.next hW) (Xn hR) hR _ qpn _ (fun w1 hw1 => qte k B _ w1 (Vj s) _ (Qa hw1 hB) h1 (by show s.x ≤ 120;omega)) rfl rfl rfl
theorem qyy : Plain 213 := by
 intro args W
 kernel_rfl
theorem q1m {w0 w : World} {s : Scr} {cv tv gv : Value} {n hh : Nat} (h : Came w0 w s cv tv gv) (hR : Qg s n hh) (a b : Int) : Calls qP 162 #[.agg (scrA s cv tv gv),.int .i64 a,.int .i64 b] w (Made w0 w (Ji s (cnt b - 1) (qc9 s a)) 0) := by
 have h1 := hR.t0;have h2 := hR.t1;have h3 := hR.t2;have h4 := hR.h2;exact qyw s _ cv tv gv a b 0 w0 w h.v h.b.size fun W B1 B2 hW hB1 hB2 => Jq (h.next hW) (Xn hR) hR _ qyy _ (fun w1 hw1 => q0r a b B1 B2 _ w1 (Vj s) _ (Qa hw1 hB1) (Qa hw1 hB2) h1 (by show s.top ≤ 60;omega)) rfl rfl rfl
end Put
namespace Put
open Grd (C)
theorem q0g (n sy : Int) (B1 B0 M : Nat) (w : World) (s : Scr) (rows : List (List C)) (hB1 : w.cell? ⟨B1, 0, none⟩ = some (.int .i64 n)) (hB0 : w.cell? ⟨B0, 4, none⟩ = some (.int .i64 sy)) (h0 : 0 ≤ s.y) (h1 : s.y ≤ 60) :
  Does 188 #[.pointer (some ⟨B1,0,none⟩),.pointer (some ⟨B0,0,none⟩)] M w s { s with y := if s.top ≤ sy then max (s.y - cnt n) s.top else s.y - cnt n } rows rows := by
 intro W p hb hS;have hc := Xw n;obtain ⟨c0,c1,c3,c4,c5,c9,c10,c11,c19,f⟩ := hS.words;have f4 := f 4;have q0 := Qa hb hB1;have hlo := hS.lo;have HE : Hid (∀ v',v' = Value.int .i64 (s.y - cnt n) → ShAt 110 (W.setCell ⟨p,4,none⟩ v').drew M w.heap.size p { s with y := s.y - cnt n } rows ∧ Below w.heap.size W (W.setCell ⟨p,4,none⟩ v').drew) := hS.fin Qp 4 _ (fun _ _ _ _ => rfl) rfl rfl
 have HC : Hid (∀ W,Calls qP 127 #[.int .i64 n] W fun e w' => e = .returned (.int .i64 (cnt n)) ∧ W = w') := fun W => Yf n W
 have HB : Hid (Below w.heap.size w W) := hb;have HB0 : Hid (w.cell? ⟨B0,4,none⟩ = some (.int .i64 sy)) := hB0;clear hS hb hB1 hB0 c0 c1 c3 c5 c9 c10 c11 c19 f;generalize cnt n = k at *;generalize hry : (if s.top ≤ sy then max (s.y - k) s.top else s.y - k) = ry
 have HR : Hid ((if s.top ≤ sy then max (s.y - k) s.top else s.y - k) = ry) := hry
 clear hry;go_enter Tryz.func188,Tryz.ntmps188;go_upto_region 0 with fail
 go_cut [] from 4 to 14 (fun wx => ShAt 110 wx M w.heap.size p { s with y := s.y - k } rows ∧ Below w.heap.size W wx)
 case first =>
  go_region_with (first | (go_at_call 127;refine (HC.out _).mono ?_;rintro e V ⟨rfl,hv⟩;subst hv))
  all_goals go_wp2_with fail
  all_goals go_meet
  all_goals exact HE.out _ (qcp _ (by omega) (by omega))
 case rest =>
  obtain ⟨hS1,hb1⟩ := hcut;have q4 := Qa (HB.out.trans hb1) HB0.out;obtain ⟨c0,c1,c3,d4,c5,c9,c10,c11,c19,f⟩ := hS1.words;have g4 := f 4;have HS1 : Hid (ShAt 110 wc M w.heap.size p { s with y := s.y - k } rows) := hS1
  have HB1 : Hid (Below w.heap.size W wc) := hb1;have HE2 : Hid (∀ v',v' = Value.int .i64 (max (s.y - k) s.top) → ShAt 110 (wc.drew.setCell ⟨p,4,none⟩ v').drew M w.heap.size p { s with y := max (s.y - k) s.top } rows ∧ Below w.heap.size wc.drew (wc.drew.setCell ⟨p,4,none⟩ v').drew) := hS1.drew.fin Qp 4 _ (fun _ _ _ _ => rfl) rfl rfl
  have hm := Grd.max2 (s.y - k) s.top;clear c0 c1 c3 c5 c11 c19 f hS1 hb1 q0 c4 f4 HE HC;go_upto_region 1 with fail
  by_cases hq : s.top ≤ sy
  ·have HR2 : Hid (max (s.y - k) s.top = ry) := by unfold Hid; rw [← HR.out, if_pos hq]
   go_region
   all_goals go_upto_region 2 with fail
   all_goals go_region
   all_goals go_end0
   all_goals rw [← HR2.out]
   all_goals refine ⟨rfl,(HE2.out _ rfl).1,(HB1.out.drew).trans (HE2.out _ rfl).2⟩
  ·have HR2 : Hid (s.y - k = ry) := by unfold Hid; rw [← HR.out, if_neg hq]
   have hd : decide (s.top ≤ sy) = false := decide_eq_false hq;go_region
   all_goals go_wp2_with fail
   all_goals go_end0
   all_goals rw [← HR2.out]
   all_goals exact ⟨rfl,HS1.out.drew,HB1.out.drew⟩
theorem quq (n sy : Int) (B1 B0 M : Nat) (w : World) (s : Scr) (rows : List (List C)) (hB1 : w.cell? ⟨B1, 0, none⟩ = some (.int .i64 n)) (hB0 : w.cell? ⟨B0, 4, none⟩ = some (.int .i64 sy)) (h0 : 0 ≤ s.y) (h1 : s.y ≤ 60) :
  Does 189 #[.pointer (some ⟨B1,0,none⟩),.pointer (some ⟨B0,0,none⟩)] M w s { s with y := if sy ≤ s.bot then min (s.y + cnt n) s.bot else s.y + cnt n } rows rows := by
 intro W p hb hS;have hc := Xw n;obtain ⟨c0,c1,c3,c4,c5,c9,c10,c11,c19,f⟩ := hS.words;have f4 := f 4;have q0 := Qa hb hB1;have hlo := hS.lo;have HE : Hid (∀ v',v' = Value.int .i64 (s.y + cnt n) → ShAt 110 (W.setCell ⟨p,4,none⟩ v').drew M w.heap.size p { s with y := s.y + cnt n } rows ∧ Below w.heap.size W (W.setCell ⟨p,4,none⟩ v').drew) := hS.fin Qp 4 _ (fun _ _ _ _ => rfl) rfl rfl
 have HC : Hid (∀ W,Calls qP 127 #[.int .i64 n] W fun e w' => e = .returned (.int .i64 (cnt n)) ∧ W = w') := fun W => Yf n W
 have HB : Hid (Below w.heap.size w W) := hb;have HB0 : Hid (w.cell? ⟨B0,4,none⟩ = some (.int .i64 sy)) := hB0;clear hS hb hB1 hB0 c0 c1 c3 c5 c9 c10 c11 c19 f;generalize cnt n = k at *;generalize hry : (if sy ≤ s.bot then min (s.y + k) s.bot else s.y + k) = ry
 have HR : Hid ((if sy ≤ s.bot then min (s.y + k) s.bot else s.y + k) = ry) := hry
 clear hry;go_enter Tryz.func189,Tryz.ntmps189;go_upto_region 0 with fail
 go_cut [] from 4 to 14 (fun wx => ShAt 110 wx M w.heap.size p { s with y := s.y + k } rows ∧ Below w.heap.size W wx)
 case first =>
  go_region_with (first | (go_at_call 127;refine (HC.out _).mono ?_;rintro e V ⟨rfl,hv⟩;subst hv))
  all_goals go_wp2_with fail
  all_goals go_meet
  all_goals exact HE.out _ (qcp _ (by omega) (by omega))
 case rest =>
  obtain ⟨hS1,hb1⟩ := hcut;have q4 := Qa (HB.out.trans hb1) HB0.out;obtain ⟨c0,c1,c3,d4,c5,c9,c10,c11,c19,f⟩ := hS1.words;have g4 := f 4;have HS1 : Hid (ShAt 110 wc M w.heap.size p { s with y := s.y + k } rows) := hS1
  have HB1 : Hid (Below w.heap.size W wc) := hb1;have HE2 : Hid (∀ v',v' = Value.int .i64 (min (s.y + k) s.bot) → ShAt 110 (wc.drew.setCell ⟨p,4,none⟩ v').drew M w.heap.size p { s with y := min (s.y + k) s.bot } rows ∧ Below w.heap.size wc.drew (wc.drew.setCell ⟨p,4,none⟩ v').drew) := hS1.drew.fin Qp 4 _ (fun _ _ _ _ => rfl) rfl rfl
  have hm := Grd.min2 (s.y + k) s.bot;clear c0 c1 c3 c5 c11 c19 f hS1 hb1 q0 c4 f4 HE HC;go_upto_region 1 with fail
  by_cases hq : sy ≤ s.bot
  ·have HR2 : Hid (min (s.y + k) s.bot = ry) := by unfold Hid; rw [← HR.out, if_pos hq]
   go_region
   all_goals go_upto_region 2 with fail
   all_goals go_region
   all_goals go_end0
   all_goals rw [← HR2.out]
   all_goals refine ⟨rfl,(HE2.out _ rfl).1,(HB1.out.drew).trans (HE2.out _ rfl).2⟩
  ·have HR2 : Hid (s.y + k = ry) := by unfold Hid; rw [← HR.out, if_neg hq]
   have hd : decide (sy ≤ s.bot) = false := decide_eq_false hq;go_region
   all_goals go_wp2_with fail
   all_goals go_end0
   all_goals rw [← HR2.out]
   all_goals exact ⟨rfl,HS1.out.drew,HB1.out.drew⟩
theorem qn7 (M : Nat) (w : World) (s : Scr) (rows : List (List C)) : Does 131 #[] M w s { s with x := 0 } rows rows := by
 intro W p hb hS;obtain ⟨c0,c1,c3,c4,c5,c9,c10,c11,c19,f⟩ := hS.words;have f3 := f 3;have HE : Hid (ShAt 110 (W.setCell ⟨p,3,none⟩ (.int .i64 0)) M w.heap.size p { s with x := 0 } rows ∧ Below w.heap.size W (W.setCell ⟨p,3,none⟩ (.int .i64 0))) := ⟨hS.set Qp 3 _ (fun _ _ _ _ => rfl) rfl rfl,(qr _ _).setCell hS.lo _⟩
 clear hS hb c0 c1 c4 c5 c9 c10 c11 c19 f;go_enter Tryz.func131,Tryz.ntmps131;go_wp2_with fail;go_end0;exact ⟨rfl,HE.out⟩
theorem qmq (n : Int) (B M : Nat) (w : World) (s : Scr) (rows : List (List C)) (hB : w.cell? ⟨B,0,none⟩ = some (.int .i64 n)) : Does 191 #[.pointer (some ⟨B,0,none⟩)] M w s { s with x := cnt n - 1 } rows rows := by
 intro W p hb hS;have q1 := Qa hb hB;have H1 := qcb n W hS;clear hS hB;go_enter Tryz.func191,Tryz.ntmps191;go_wp2_with fail;refine H1.mono ?_;rintro e W1 ⟨rfl,hS1,b1⟩;go_wp2_with fail;go_end0;exact ⟨rfl,hS1,b1⟩
theorem qy3 (n : Int) (B M : Nat) (w : World) (s : Scr) (rows : List (List C)) (hB : w.cell? ⟨B,0,none⟩ = some (.int .i64 n)) (h0 : 0 ≤ s.top) (h1 : s.top ≤ 60) : Does 203 #[.pointer (some ⟨B,0,none⟩)] M w s { s with y := qc9 s n } rows rows := by
 intro W p hb hS;have q1 := Qa hb hB;have H1 := qiz n W hS h0 h1;clear hS hB;go_enter Tryz.func203,Tryz.ntmps203;go_wp2_with fail;refine H1.mono ?_;rintro e W1 ⟨rfl,hS1,b1⟩;go_wp2_with fail;go_end0;exact ⟨rfl,hS1,b1⟩
end Put
namespace Put
structure Met (w0 w : World) (s : Scr) (cv tv gv : Value) : Prop where
 t : Txt.Tab w
 v : Zh w0 s cv tv gv
 b : Below w0.heap.size w0 w
 f : Fits s
theorem Met.next {w0 w W : World} {s : Scr} {cv tv gv : Value} (h : Met w0 w s cv tv gv) (hb : Below w.heap.size w W) : Met w0 W s cv tv gv := ⟨Grd.Tab.next h.t hb,h.v,h.b.trans (hb.mono h.b.size),h.f⟩
end Put
namespace Put
open Grd (C SliceAt Qb Qf z0 Q0 flat Qe)
theorem Met.came {w0 w : World} {s : Scr} {cv tv gv : Value} (h : Met w0 w s cv tv gv) : Came w0 w s cv tv gv := ⟨h.t,h.v,h.b,h.f⟩
theorem Gn {s : Scr} {n hh : Nat} (h : Qg s n hh) (i : Nat) (hi : i < (Qe n s.cs hh).length) : ((Qe n s.cs hh).getD i []).length = n := by
 rw [Grd.Qt] at hi;have e2 : (Qe n s.cs hh).getD i [] = Grd.rowAt n s.cs i := by simp [Qe,qy,hi]
 rw [e2];exact Grd.qbf n hh s.cs i h.cl hi
theorem qyf : Plain 188 := by
 intro args W
 kernel_rfl
theorem q1o {w0 w : World} {s : Scr} {cv tv gv : Value} {n hh : Nat} (h : Came w0 w s cv tv gv) (hR : Qg s n hh) (k : Int) : Calls qP 145 #[.agg (scrA s cv tv gv),.int .i64 k] w (Made w0 w (Ji s (s.x) (if s.top ≤ s.y then max (s.y - cnt k) s.top else s.y - cnt k)) 0) := by
 have h1 := hR.y0;have h2 := hR.y1;have h3 := hR.h2;exact qwv s _ cv tv gv k 0 w0 w h.v h.b.size fun _ B0 B1 hW hB0 hB1 => Jq (h.next hW) (Xn hR) hR _ qyf _ (fun w1 hw1 => q0g k s.y B1 B0 _ w1 (Vj s) _ (Qa hw1 hB1) (Qa hw1 (Qi hB0).1.2.2.2.2.1) h1 (by show s.y ≤ 60;omega)) rfl rfl rfl
theorem qpa : Plain 189 := by
 intro args W
 kernel_rfl
theorem qw9 {w0 w : World} {s : Scr} {cv tv gv : Value} {n hh : Nat} (h : Came w0 w s cv tv gv) (hR : Qg s n hh) (k : Int) : Calls qP 146 #[.agg (scrA s cv tv gv),.int .i64 k] w (Made w0 w (Ji s (s.x) (if s.y ≤ s.bot then min (s.y + cnt k) s.bot else s.y + cnt k)) 0) := by
 have h1 := hR.y0;have h2 := hR.y1;have h3 := hR.h2;exact down_calls s _ cv tv gv k 0 w0 w h.v h.b.size fun _ B0 B1 hW hB0 hB1 => Jq (h.next hW) (Xn hR) hR _ qpa _ (fun w1 hw1 => quq k s.y B1 B0 _ w1 (Vj s) _ (Qa hw1 hB1) (Qa hw1 (Qi hB0).1.2.2.2.2.1) h1 (by show s.y ≤ 60;omega)) rfl rfl rfl
theorem qj6 : Plain 131 := by
 intro args W
 kernel_rfl
theorem qp9 {w0 w : World} {s : Scr} {cv tv gv : Value} {n hh : Nat} (h : Came w0 w s cv tv gv) (hR : Qg s n hh) : Calls qP 91 #[.agg (scrA s cv tv gv)] w (Made w0 w (Ji s (0) (s.y)) 0) := by
 exact qkg s _ cv tv gv 0 w0 w h.v h.b.size fun _ _ hW => Jq (h.next hW) (Xn hR) hR _ qj6 _ (fun w1 hw1 => qn7 _ w1 (Vj s) _) rfl rfl rfl
theorem qk8 : Plain 191 := by
 intro args W
 kernel_rfl
theorem qpm {w0 w : World} {s : Scr} {cv tv gv : Value} {n hh : Nat} (h : Came w0 w s cv tv gv) (hR : Qg s n hh) (k : Int) : Calls qP 148 #[.agg (scrA s cv tv gv),.int .i64 k] w (Made w0 w (Ji s (cnt k - 1) (s.y)) 0) := by
 exact qjx s _ cv tv gv k 0 w0 w h.v h.b.size fun _ B hW hB => Jq (h.next hW) (Xn hR) hR _ qk8 _ (fun w1 hw1 => qmq k B _ w1 (Vj s) _ (Qa hw1 hB)) rfl rfl rfl
theorem qs3 : Plain 203 := by
 intro args W
 kernel_rfl
theorem q0o {w0 w : World} {s : Scr} {cv tv gv : Value} {n hh : Nat} (h : Came w0 w s cv tv gv) (hR : Qg s n hh) (k : Int) : Calls qP 157 #[.agg (scrA s cv tv gv),.int .i64 k] w (Made w0 w (Ji s (s.x) (qc9 s k)) 0) := by
 have h1 := hR.t0;have h2 := hR.t1;have h3 := hR.t2;have h4 := hR.h2;exact quw s _ cv tv gv k 0 w0 w h.v h.b.size fun _ B hW hB => Jq (h.next hW) (Xn hR) hR _ qs3 _ (fun w1 hw1 => qy3 k B _ w1 (Vj s) _ (Qa hw1 hB) h1 (by show s.top ≤ 60;omega)) rfl rfl rfl
end Put
end Go.Proofs.YtooobiigijphkaaGreatDoor
