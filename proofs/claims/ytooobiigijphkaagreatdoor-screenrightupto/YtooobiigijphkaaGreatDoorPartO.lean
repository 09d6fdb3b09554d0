/- Parts of the proof, shortened by a program. -/
import Derived.Test.YtooobiigijphkaaGreatDoorPartM
import Derived.Test.YtooobiigijphkaaGreatDoorPartE
import Derived.Deep.RegionHeld3
import Derived.BigRegion
import Derived.BigQuiet
import Derived.Test.YtooobiigijphkaaGreatDoorPartN
import Derived.Test.YtooobiigijphkaaGreatDoorPartG
import Derived.Deep.RegionWith
import Derived.Lib.RuneBytes
import Derived.Laws.Cover4
import Derived.Lib.RuneCount
import Derived.Laws.IdiomStrings
import Derived.Test.YtooobiigijphkaaGreatDoorPartF
import Derived.Test.YtooobiigijphkaaGreatDoorPartK
import Derived.Deep.Cut
import Derived.Deep.CutRange
set_option maxHeartbeats 8000000
open Nat renaming le_refl → qd
open List renaming replicate → qe, getD → qy
open Go renaming heap_alloc_new → qf, setRow_other → qg, below_setRow → qi, setRow_heap → qj, wpList_load_row → ql
open Go.RowKit.Below renaming refl → qr
open Go.Proofs.Tryz renaming prog → qP
namespace Go.Proofs.YtooobiigijphkaaGreatDoor
set_option linter.unusedVariables false
set_option linter.unusedSimpArgs false
set_option maxRecDepth 100000
open Go.ChangeShapes Go.WideShapes Go.ChangeAt Go.RowKit
namespace Put
open Grd (C)
theorem qw4 {W : World} {R : Nat} {t : TypeId} {s : Scr} {cv tv gv rv : Value} (h : W.heap[R]? = some (.cells (shA s cv tv gv rv) t (0,0))) (o n : Nat) (hn : o + n ≤ 23) : W.there R o n := fun j hj => by
 refine ⟨?_,Grd.Je h _⟩;unfold World.cell?;rw [h];have : o + j < (shA s cv tv gv rv).size := by show o + j < 23;omega
 simp [Array.getElem?_eq_getElem this]
theorem ShAt.block {t : TypeId} {W : World} {M N p : Nat} {s : Scr} {rows : List (List C)} (h : ShAt t W M N p s rows) : ∃ cv tv gv rv,W.heap[p]? = some (.cells (shA s cv tv gv rv) t (0,0)) := by
 obtain ⟨cv,tv,gv,rv,gvs,vs,h⟩ := h;exact ⟨cv,tv,gv,rv,h.blk⟩
theorem Zr {N : Nat} {W W' : World} {p : Nat} (hb : Below N W W') (hp : N ≤ p) : ∀ (vs : List Value) (o : Nat), Below N W (W'.setCells p o vs)
 | [],_ => hb
 | v :: r,o => Zr (hb.setCell hp v) hp r (o + 1)
theorem ShAt.look {t : TypeId} (ht : X6 t) {W : World} {M N p : Nat} {s : Scr} {rows : List (List C)} (h : ShAt t W M N p s rows) (a b c : Int) : ShAt t (W.setCells p 6 [.int .i64 a,.int .i64 b,.int .i64 c]) M N p { s with sf := a,sb := b,sx := c } rows := by
 have h1 : ShAt t (W.setCell ⟨p,6,none⟩ (.int .i64 a)) M N p { s with sf := a } rows := h.set ht 6 _ (fun _ _ _ _ => rfl) rfl rfl
 have h2 : ShAt t ((W.setCell ⟨p,6,none⟩ (.int .i64 a)).setCell ⟨p,7,none⟩ (.int .i64 b)) M N p { s with sf := a,sb := b } rows := h1.set ht 7 _ (fun _ _ _ _ => rfl) rfl rfl
 exact h2.set ht 8 _ (fun _ _ _ _ => rfl) rfl rfl
theorem ShAt.kept {t : TypeId} (ht : X6 t) {W : World} {M N p : Nat} {s : Scr} {rows : List (List C)} (h : ShAt t W M N p s rows) (x y a b c m : Int) : ShAt t (W.setCells p 13 [.int .i64 x,.int .i64 y,.int .i64 a,.int .i64 b,.int .i64 c,.int .i64 m]) M N p { s with kx := x,ky := y,kf := a,kb := b,kbits := c,km := m } rows := by
 have h1 : ShAt t (W.setCell ⟨p,13,none⟩ (.int .i64 x)) M N p { s with kx := x } rows := h.set ht 13 _ (fun _ _ _ _ => rfl) rfl rfl
 have h2 : ShAt t ((W.setCell ⟨p,13,none⟩ (.int .i64 x)).setCell ⟨p,14,none⟩ (.int .i64 y)) M N p { s with kx := x,ky := y } rows := h1.set ht 14 _ (fun _ _ _ _ => rfl) rfl rfl
 have h3 : ShAt t (((W.setCell ⟨p,13,none⟩ (.int .i64 x)).setCell ⟨p,14,none⟩ (.int .i64 y)).setCell ⟨p,15,none⟩ (.int .i64 a)) M N p { s with kx := x,ky := y,kf := a } rows := h2.set ht 15 _ (fun _ _ _ _ => rfl) rfl rfl
 have h4 : ShAt t ((((W.setCell ⟨p,13,none⟩ (.int .i64 x)).setCell ⟨p,14,none⟩ (.int .i64 y)).setCell ⟨p,15,none⟩ (.int .i64 a)).setCell ⟨p,16,none⟩ (.int .i64 b)) M N p { s with kx := x,ky := y,kf := a,kb := b } rows := h3.set ht 16 _ (fun _ _ _ _ => rfl) rfl rfl
 have h5 : ShAt t (((((W.setCell ⟨p,13,none⟩ (.int .i64 x)).setCell ⟨p,14,none⟩ (.int .i64 y)).setCell ⟨p,15,none⟩ (.int .i64 a)).setCell ⟨p,16,none⟩ (.int .i64 b)).setCell ⟨p,17,none⟩ (.int .i64 c)) M N p { s with kx := x,ky := y,kf := a,kb := b,kbits := c } rows := h4.set ht 17 _ (fun _ _ _ _ => rfl) rfl rfl
 exact h5.set ht 18 _ (fun _ _ _ _ => rfl) rfl rfl
theorem qfs : (Tryz.prog.info? 26).map (·.size) = some 3 := by kernel_rfl
theorem qub : (Tryz.prog.info? 29).map (·.size) = some 6 := by kernel_rfl
def qpz (W : World) (v : Value) : Prop := ∃ R o cs t fr,v = .pointer (some ⟨R,o,none⟩) ∧ W.heap[R]? = some (.cells cs t fr) ∧ o + 3 ≤ cs.size
def qgr (W : World) (v : Value) : Array Value := match v with
 | .pointer (some a) => (match W.heap[a.block]? with
  | some (.cells cs _ _) => cs.extract a.off (a.off + 3)
  | _ => #[])
 | _ => #[]
theorem qye (a : Act) (dst : Option Tmp) (x : Operand) (ty : TypeId) (pos : String) (after : Array Edge) (guard : Option (Nat × Bool)) (W : World) (h : qpz W (a.eval x)) :
  (execOp a.eval { dst,op := .load 26 x,type := ty,pos,after,guard }).run qP W = .ok (.value (.agg (qgr W (a.eval x)))) W := by
 obtain ⟨R,o,cs,t,fr,h0,h1,h2⟩ := h;have e : qgr W (a.eval x) = cs.extract o (o + 3) := by rw [h0];unfold qgr;simp only [];rw [h1]
 rw [e];have hr := run_loadVar_mid (P := qP) W R o 26 (cs.extract o (o + 3)).toList _ (World.rangeAt_of_block h1 o 3) Tryz.underlying26 rfl (by rw [qfs];simp;omega)
 unfold execOp;simp only [h0,Instr.loadAt,Instr.sureAddr,Sem.run_bind,Sem.run_pure,Result.andThen_ok,hr]
theorem qy5 {W : World} {R : Nat} {t : TypeId} {s : Scr} {cv tv gv rv : Value} (h : W.heap[R]? = some (.cells (shA s cv tv gv rv) t (0,0))) : qpz W (.pointer (some ⟨R,6,none⟩)) ∧ qgr W (.pointer (some ⟨R,6,none⟩)) = #[.int .i64 s.sf,.int .i64 s.sb,.int .i64 s.sx] := by
 refine ⟨⟨_,_,_,_,_,rfl,h,by show 9 ≤ 23;omega⟩,?_⟩
 unfold qgr;simp only [];rw [h]
 rfl
theorem qxw {W : World} {R : Nat} {t : TypeId} {s : Scr} {cv tv gv rv : Value} (h : W.heap[R]? = some (.cells (shA s cv tv gv rv) t (0,0))) : qpz W (.pointer (some ⟨R,15,none⟩)) ∧ qgr W (.pointer (some ⟨R,15,none⟩)) = #[.int .i64 s.kf,.int .i64 s.kb,.int .i64 s.kbits] := by
 refine ⟨⟨_,_,_,_,_,rfl,h,by show 18 ≤ 23;omega⟩,?_⟩
 unfold qgr;simp only [];rw [h]
 rfl
def qo7 (v : Value) : Nat := match v with
 | .pointer (some a) => a.off
 | _ => 0
def ptrB (v : Value) : Nat := match v with
 | .pointer (some a) => a.block
 | _ => 0
def aggL (v : Value) : List Value := match v with
 | .agg cs => cs.toList
 | _ => []
theorem qdu (a : Addr) : qo7 (.pointer (some a)) = a.off := rfl
theorem qkr (a : Addr) : ptrB (.pointer (some a)) = a.block := rfl
theorem qhd (cs : Array Value) : aggL (.agg cs) = cs.toList := rfl
def qqq (n : Nat) (W : World) (v : Value) : Prop := ∃ R o,v = .pointer (some ⟨R,o,none⟩) ∧ W.there R o n
def qku (n : Nat) (v : Value) : Prop := ∃ cs : Array Value,v = .agg cs ∧ cs.size = n ∧ cs.all (·.oneCell') = true
theorem qzv (a b c : Int) : qku 3 (.agg #[.int .i64 a,.int .i64 b,.int .i64 c]) := ⟨_,rfl,rfl,by simp [Value.oneCell']⟩
theorem qz2 (a b c d e f : Int) : qku 6 (.agg #[.int .i64 a,.int .i64 b,.int .i64 c,.int .i64 d,.int .i64 e,.int .i64 f]) := ⟨_,rfl,rfl,by simp [Value.oneCell']⟩
theorem qs7 (a : Act) (dst : Option Tmp) (x y : Operand) (ty : TypeId) (pos : String) (after : Array Edge) (guard : Option (Nat × Bool)) (W : World) (h : qqq 3 W (a.eval x)) (hy : qku 3 (a.eval y)) :
  (execOp a.eval { dst,op := .store 26 x y,type := ty,pos,after,guard }).run qP W = .ok .skip (W.setCells (ptrB (a.eval x)) (qo7 (a.eval x)) (aggL (a.eval y))) := by
 obtain ⟨R,o,h0,h1⟩ := h;obtain ⟨cs,h2,h3,h4⟩ := hy;have hr := run_storeVar_mid (P := qP) W R o 26 cs (by rw [h3];exact h1) (by rw [qfs,h3]) h4
 unfold execOp;simp only [h0,h2,Instr.storeAt,Instr.sureAddr,Sem.run_bind,Sem.run_pure,Result.andThen_ok,hr,qkr,qdu,qhd]
theorem qrg (a : Act) (dst : Option Tmp) (x y : Operand) (ty : TypeId) (pos : String) (after : Array Edge) (guard : Option (Nat × Bool)) (W : World) (h : qqq 6 W (a.eval x)) (hy : qku 6 (a.eval y)) :
  (execOp a.eval { dst,op := .store 29 x y,type := ty,pos,after,guard }).run qP W = .ok .skip (W.setCells (ptrB (a.eval x)) (qo7 (a.eval x)) (aggL (a.eval y))) := by
 obtain ⟨R,o,h0,h1⟩ := h;obtain ⟨cs,h2,h3,h4⟩ := hy;have hr := run_storeVar_mid (P := qP) W R o 29 cs (by rw [h3];exact h1) (by rw [qub,h3]) h4
 unfold execOp;simp only [h0,h2,Instr.storeAt,Instr.sureAddr,Sem.run_bind,Sem.run_pure,Result.andThen_ok,hr,qkr,qdu,qhd]
theorem qy7 {W : World} {R : Nat} {t : TypeId} {s : Scr} {cv tv gv rv : Value} (h : W.heap[R]? = some (.cells (shA s cv tv gv rv) t (0,0))) (n o : Nat) (hn : o + n ≤ 23) : qqq n W (.pointer (some ⟨R,o,none⟩)) := ⟨R,o,rfl,qw4 h o n hn⟩
section
attribute [local go_sem ↓] qye qs7 qrg
attribute [local go_sem] qzv qz2 qkr qdu qhd
theorem qt0 (M : Nat) (w : World) (s : Scr) (rows : List (List C)) :
  Does 133 #[] M w s (qeh s) rows rows := by
 intro W p hb hS;have hlo := hS.lo;have HK : Hid (ShAt 110 (W.drew.setCells p 13 [.int .i64 s.x,.int .i64 s.y,.int .i64 s.sf,.int .i64 s.sb,.int .i64 s.sx,.int .i64 (bits .and .i64 s.modes 6)]) M w.heap.size p (qeh s) rows) := hS.drew.kept Qp _ _ _ _ _ _;have HB : Hid (Below w.heap.size W (W.drew.setCells p 13 [.int .i64 s.x,.int .i64 s.y,.int .i64 s.sf,.int .i64 s.sb,.int .i64 s.sx,.int .i64 (bits .and .i64 s.modes 6)]) ) := Zr (qr _ _).drew hlo _ _;obtain ⟨c0,c1,c3,c4,c5,c9,c10,c11,c19,f⟩ := hS.words;obtain ⟨cv,tv,gv,rv,hblk⟩ := hS.drew.block;obtain ⟨l1,l2⟩ := qy5 hblk;have l3 := qy7 hblk 6 13 (by omega)
 clear hS c0 c1 c5 c9 c10 c19 f hblk hb
 show Calls _ _ #[.pointer (some ⟨p,0,none⟩)] _ _
 go_enter Tryz.func133,Tryz.ntmps133;go_upto_region 0 with fail
 go_region
 all_goals go_end0
 all_goals exact ⟨rfl,HK.out,HB.out⟩
theorem qj5 (M : Nat) (w : World) (s : Scr) (rows : List (List C)) :
  Does 134 #[] M w s (qeo s) rows rows := by
 intro W p hb hS;have hlo := hS.lo;have hD := hS.drew;have k1 : ShAt 110 (W.setCell ⟨p,3,none⟩ (.int .i64 s.kx)) M w.heap.size p { s with x := s.kx } rows := hS.set Qp 3 _ (fun _ _ _ _ => rfl) rfl rfl
 have k2' : ShAt 110 ((W.setCell ⟨p,3,none⟩ (.int .i64 s.kx)).setCell ⟨p,4,none⟩ (.int .i64 s.ky)) M w.heap.size p { s with x := s.kx,y := s.ky } rows := k1.set Qp 4 _ (fun _ _ _ _ => rfl) rfl rfl
 have k2 := k2'.drew;clear k2';have k3 : ShAt 110 (((W.setCell ⟨p,3,none⟩ (.int .i64 s.kx)).setCell ⟨p,4,none⟩ (.int .i64 s.ky)).drew.setCells p 6 [.int .i64 s.kf,.int .i64 s.kb,.int .i64 s.kbits]) M w.heap.size p { s with x := s.kx,y := s.ky,sf := s.kf,sb := s.kb,sx := s.kbits } rows := k2.look Qp s.kf s.kb s.kbits
 have k4 : ShAt 110 ((((W.setCell ⟨p,3,none⟩ (.int .i64 s.kx)).setCell ⟨p,4,none⟩ (.int .i64 s.ky)).drew.setCells p 6 [.int .i64 s.kf,.int .i64 s.kb,.int .i64 s.kbits]).setCell ⟨p,5,none⟩ (.bool false)) M w.heap.size p { s with x := s.kx,y := s.ky,sf := s.kf,sb := s.kb,sx := s.kbits,late := false } rows := k3.set Qp 5 _ (fun _ _ _ _ => rfl) rfl rfl
 have HB : Hid (Below w.heap.size W ((((W.setCell ⟨p,3,none⟩ (.int .i64 s.kx)).setCell ⟨p,4,none⟩ (.int .i64 s.ky)).drew.setCells p 6 [.int .i64 s.kf,.int .i64 s.kb,.int .i64 s.kbits]).setCell ⟨p,5,none⟩ (.bool false))) := (Zr (((qr _ _).setCell hlo _).setCell hlo _).drew hlo _ _).setCell hlo _;have HK : Hid _ := k4;obtain ⟨c0,c1,c3,c4,c5,c9,c10,c11,c19,f⟩ := hS.words;have f3 := f 3;have f4 := (ShAt.words k1).2.2.2.2.2.2.2.2.2 4;have c4' := (ShAt.words k1).2.2.2.1;have f5 := (ShAt.words k3).2.2.2.2.2.2.2.2.2 5;have c5' := (ShAt.words k3).2.2.2.2.1
 dsimp only at c4' c5'
 obtain ⟨cv,tv,gv,rv,hblk⟩ := hD.block;obtain ⟨cv2,tv2,gv2,rv2,hblk2⟩ := k2.block;obtain ⟨l1,l2⟩ := qxw hblk;have l3 := qy7 hblk2 3 6 (by omega)
 obtain ⟨cv3,tv3,gv3,rv3,hblk3⟩ := hS.block;obtain ⟨-,⟨-,-,c13,c14,-⟩,-⟩ := Qr hblk3;clear hS hD hblk3 k1 k2 k3 k4 c0 c1 c4 c5 c9 c10 c11 c19 f hblk hblk2 hb
 show Calls _ _ #[.pointer (some ⟨p,0,none⟩)] _ _
 go_enter Tryz.func134,Tryz.ntmps134;go_upto_region 0 with fail
 go_region
 all_goals (
  generalize ((((W.setCell ⟨p,3,none⟩ (.int .i64 s.kx)).setCell ⟨p,4,none⟩ (.int .i64 s.ky)).drew.setCells p 6 [.int .i64 s.kf,.int .i64 s.kb,.int .i64 s.kbits]).setCell ⟨p,5,none⟩ (.bool false)) = Y at *;clear c3 f3 f4 c4' f5 c5' l1 l2 l3 c13 c14;obtain ⟨c0,c1,c3,c4,c5,c9,c10,c11,c19,f⟩ := ShAt.words (ShAt.drew HK.out);have f11 := f 11;obtain ⟨cv,tv,gv,rv,hblk⟩ := ShAt.block (ShAt.drew HK.out);obtain ⟨-,⟨-,-,-,-,-,-,-,c18,-⟩,-⟩ := Qr hblk
  dsimp only at c11 c18
  have HK2 : Hid (ShAt 110 (Y.drew.setCell ⟨p,11,none⟩ (.int .i64 (bits .or .i64 (bits .andNot .i64 s.modes 6) s.km))) M w.heap.size p (qeo s) rows) := ShAt.set Qp (ShAt.drew HK.out) 11 _ (fun _ _ _ _ => rfl) rfl rfl
  have HB2 : Hid (Below w.heap.size W (Y.drew.setCell ⟨p,11,none⟩ (.int .i64 (bits .or .i64 (bits .andNot .i64 s.modes 6) s.km)))) := HB.out.drew.setCell hlo _;clear HK HB f c0 c1 c3 c4 c5 c9 c10 c19 hblk;go_upto_region 1 with fail
  go_region
  all_goals go_end0
  all_goals exact ⟨rfl,HK2.out,HB2.out⟩)
end
end Put
namespace Put
open Grd (C SliceAt Qb Qf z0 Q0 flat Qe)
theorem qp5 : Plain 184 := by
 intro args W
 kernel_rfl
theorem qz4 (s' : Scr) (cs : List C) (h : cs = s'.cs) : ({ s' with cs := cs } : Scr) = s' := by
 subst h
 rfl
theorem qwq {w0 w : World} {s : Scr} {cv tv gv : Value} {n hh : Nat} (h : Met w0 w s cv tv gv) (hR : Qg s n hh) (b : Int) (on : Bool) : Calls qP 143 #[.agg (scrA s cv tv gv), .int .i64 b, .bool on] w (Made w0 w (setS s (bits .and .i64 b 63) on) 0) :=
 qh2 s _ cv tv gv b on 0 w0 w h.v h.b.size fun W B1 B2 hW hB1 l1 l2 hB2 => by
  have hs := qvb s (bits .and .i64 b 63) on;have := qa8 (h.next hW) hR _ qp5 #[.pointer (some ⟨B1,0,none⟩),.pointer (some ⟨B2,0,none⟩)] (Qe n s.cs hh) _ (fun w1 hw1 => qxd (bits .and .i64 b 63) on B1 B2 _ w1 s _ (Qa hw1 hB1) (Qa hw1 hB2) (Nat.lt_of_lt_of_le l1 hw1.size) (Nat.lt_of_lt_of_le l2 hw1.size)) (Ya hR _ hs.1) rfl
  rwa [qz4 _ _ (by rw [hs.2.2.1];exact hR.flatten)] at this
end Put
namespace Put
open Grd (C)
def qce (s : Scr) (xs : List Int) : Scr := { s with sf := (Stl.Yo (s.sf,s.sb,s.sx) xs).1,sb := (Stl.Yo (s.sf,s.sb,s.sx) xs).2.1,sx := (Stl.Yo (s.sf,s.sb,s.sx) xs).2.2 }
theorem qay {w w' : World} (h : Stl.Tab w) (hb : Below w.heap.size w w') : Stl.Tab w' := by
 obtain ⟨t,fr,h⟩ := h;exact ⟨t,fr,(hb.block _ (Qc h)).trans h⟩
section
theorem qum (B1 M : Nat) (w : World) (s : Scr) (rows : List (List C)) (pl : Option Addr) (nl cl : Nat) (xs : List Int) (hB1 : w.cell? ⟨B1, 0, none⟩ = some (.slice pl nl cl)) (hT : Stl.Tab w) (hI : Stl.qbs w (.slice pl nl cl) xs) (hlen : xs.length ≤ 140737488355328) (hw : ∀ x ∈ xs, x ≤ 9223372036854775807) :
  Does 231 #[.pointer (some ⟨B1,0,none⟩)] M w s (qce s xs) rows rows := by
 intro W p hb hS;have hlo := hS.lo;have q1 := Qa hb hB1;have HAP : Hid (∀ V,Below W.heap.size W V → Calls qP 232 #[.agg #[.int .i64 s.sf,.int .i64 s.sb,.int .i64 s.sx],.slice pl nl cl] V fun e w' => e = .returned (.agg #[.int .i64 (Stl.Yo (s.sf,s.sb,s.sx) xs).1,.int .i64 (Stl.Yo (s.sf,s.sb,s.sx) xs).2.1,.int .i64 (Stl.Yo (s.sf,s.sb,s.sx) xs).2.2]) ∧ Below V.heap.size V w') := fun V h => by
  have hbv := hb.trans (h.mono hb.size);exact Stl.qu2 (s.sf,s.sb,s.sx) _ xs V (qay hT hbv) (hI.below hbv) hlen hw
 have HLS : Hid (qce s xs = { s with sf := (Stl.Yo (s.sf,s.sb,s.sx) xs).1,sb := (Stl.Yo (s.sf,s.sb,s.sx) xs).2.1,sx := (Stl.Yo (s.sf,s.sb,s.sx) xs).2.2 }) := rfl
 generalize qce s xs = s' at *;generalize (Stl.Yo (s.sf,s.sb,s.sx) xs).1 = a1 at *;generalize (Stl.Yo (s.sf,s.sb,s.sx) xs).2.1 = a2 at *;generalize (Stl.Yo (s.sf,s.sb,s.sx) xs).2.2 = a3 at *;have HS : Hid (ShAt 110 W M w.heap.size p s rows) := hS;have SK : Hid (∀ V,Below W.heap.size W V → V.cell? ⟨B1,0,none⟩ = some (.slice pl nl cl) ∧ V.cell? ⟨p,6,none⟩ = some (.int .i64 s.sf) ∧ V.cell? ⟨p,7,none⟩ = some (.int .i64 s.sb) ∧ V.cell? ⟨p,8,none⟩ = some (.int .i64 s.sx) ∧ ∀ i,V.frozen? ⟨p,i,none⟩ = false) := fun V h => by
  obtain ⟨cv,tv,gv,rv,hblk⟩ := (ShAt.next HS.out h).block;obtain ⟨⟨-,-,-,-,-,-,c6,c7,c8,-⟩,-,fz⟩ := Qr hblk;exact ⟨Qa h q1,c6,c7,c8,fz⟩
 have HF : Hid (∀ V,Below W.heap.size W V → ShAt 110 (V.setCells p 6 [.int .i64 a1,.int .i64 a2,.int .i64 a3]) M w.heap.size p s' rows ∧ Below w.heap.size W (V.setCells p 6 [.int .i64 a1,.int .i64 a2,.int .i64 a3])) := fun V h => by
  rw [HLS.out];exact ⟨(ShAt.next HS.out h).look Qp a1 a2 a3,Zr (h.mono hb.size) hlo _ _⟩
 have b0 : Below W.heap.size W W.drew := (qr _ _).drew;obtain ⟨u1,u2,u3,u4,u5⟩ := SK.out _ (qr _ _);clear hS hB1 hT hI hlen hw u5 q1
 show Calls _ _ #[.pointer (some ⟨p,0,none⟩),.pointer (some ⟨B1,0,none⟩)] _ _
 go_enter Tryz.func231,Tryz.ntmps231;go_upto_region 0 with fail
 go_region_with (first | (go_at_call 232;refine (HAP.out _ b0).mono ?_;rintro e V ⟨rfl,bV⟩;have k1 : Below W.heap.size W V := b0.trans (bV.mono b0.size);obtain ⟨v1,v2,v3,v4,v5⟩ := SK.out _ k1;have f6 := v5 6;have f7 := v5 7;have f8 := v5 8;clear v1 v5))
 all_goals go_end0
 all_goals exact ⟨rfl,HF.out _ k1⟩
end
end Put
namespace Txt
def Vg (r : Int) : Prop := (0 ≤ r ∧ r < 55296) ∨ (57343 < r ∧ r ≤ 1114111)
theorem qza (n b0 b1 b2 b3 : Nat) : Vg (Lib.decodeN n b0 b1 b2 b3).1 := by
 unfold Vg Lib.decodeN
 repeat' split
 all_goals simp
 all_goals omega
theorem q1v (l : List UInt8) : Vg (dec l).1 := qza _ _ _ _ _
theorem qyi (n c b2 b3 : Nat) (hn : 2 ≤ n) (h0 : 128 ≤ c) (h1 : c ≤ 2047) : Lib.decodeN n (192 + c / 64) (128 + c % 64) b2 b3 = (c,2) := by
 unfold Lib.decodeN;rw [if_neg (by omega),if_pos ⟨by omega,by omega,by omega⟩,if_pos (by omega)]
 congr 1;omega
theorem qou (n c b3 : Nat) (hn : 3 ≤ n) (h : (2048 ≤ c ∧ c < 55296) ∨ (57343 < c ∧ c ≤ 65535)) : Lib.decodeN n (224 + c / 4096) (128 + c / 64 % 64) (128 + c % 64) b3 = (c,3) := by
 unfold Lib.decodeN;have e : (224 + c / 4096) % 16 * 4096 + (128 + c / 64 % 64) % 64 * 64 + (128 + c % 64) % 64 = c := by omega
 rw [if_neg (by omega),if_neg (by omega),if_pos ⟨by omega,⟨by omega,by omega⟩,by omega,by omega⟩,e,if_pos (by omega)]
theorem qux (n c : Nat) (hn : 4 ≤ n) (h0 : 65536 ≤ c) (h1 : c ≤ 1114111) : Lib.decodeN n (240 + c / 262144) (128 + c / 4096 % 64) (128 + c / 64 % 64) (128 + c % 64) = (c,4) := by
 unfold Lib.decodeN;have e : (240 + c / 262144) % 8 * 262144 + (128 + c / 4096 % 64) % 64 * 4096 + (128 + c / 64 % 64) % 64 * 64 + (128 + c % 64) % 64 = c := by omega
 rw [if_neg (by omega),if_neg (by omega),if_neg (by omega),if_pos ⟨by omega,⟨by omega,by omega⟩,⟨by omega,by omega⟩,by omega,by omega⟩,e,if_pos (by omega)]
theorem byte_toNat (n : Nat) (h : n < 256) : (n.toUInt8).toNat = n := by
 rw [Nat.toUInt8,UInt8.toNat_ofNat'];omega
theorem qqm (r : Int) (h : Vg r) (b : List UInt8) : dec (Lib.encodeRune r ++ b) = (r.toNat,(Lib.encodeRune r).length) := by
 obtain ⟨c,rfl⟩ := Int.eq_ofNat_of_zero_le (show 0 ≤ r by unfold Vg at h;omega)
 unfold Vg at h;unfold Lib.encodeRune
 by_cases h1 : c ≤ 127
 ·rw [Lib.encodeRuneZ_one (by omega) (by omega)]
  simp only [List.map_cons,List.map_nil,List.cons_append,List.nil_append,dec,List.getD_cons_zero,Int.toNat_natCast,byte_toNat c (by omega)]
  rw [qpf _ _ _ _ _ (by omega)]
  rfl
 ·by_cases h2 : c ≤ 2047
  ·rw [Lib.encodeRuneZ_two (by omega) (by omega)]
   simp only [List.map_cons,List.map_nil,List.cons_append,List.nil_append,dec,List.getD_cons_zero,List.getD_cons_succ,Int.toNat_natCast];rw [show (192 + (c : Int) / 64).toNat = 192 + c / 64 by omega,show (128 + (c : Int) % 64).toNat = 128 + c % 64 by omega,byte_toNat _ (by omega),byte_toNat _ (by omega)]
   exact qyi _ c _ _ (by simp) (by omega) (by omega)
  ·by_cases h3 : c ≤ 65535
   ·rw [Lib.encodeRuneZ_three (by omega)]
    simp only [List.map_cons,List.map_nil,List.cons_append,List.nil_append,dec,List.getD_cons_zero,List.getD_cons_succ,Int.toNat_natCast];rw [show (224 + (c : Int) / 4096).toNat = 224 + c / 4096 by omega,show (128 + (c : Int) / 64 % 64).toNat = 128 + c / 64 % 64 by omega,show (128 + (c : Int) % 64).toNat = 128 + c % 64 by omega,byte_toNat _ (by omega),byte_toNat _ (by omega),byte_toNat _ (by omega)]
    exact qou _ c _ (by simp) (by omega)
   ·rw [Lib.encodeRuneZ_four (by omega) (by omega)]
    simp only [List.map_cons,List.map_nil,List.cons_append,List.nil_append,dec,List.getD_cons_zero,List.getD_cons_succ,Int.toNat_natCast];rw [show (240 + (c : Int) / 262144).toNat = 240 + c / 262144 by omega,show (128 + (c : Int) / 4096 % 64).toNat = 128 + c / 4096 % 64 by omega,show (128 + (c : Int) / 64 % 64).toNat = 128 + c / 64 % 64 by omega,show (128 + (c : Int) % 64).toNat = 128 + c % 64 by omega,byte_toNat _ (by omega),byte_toNat _ (by omega),byte_toNat _ (by omega),byte_toNat _ (by omega)]
    exact qux _ c (by simp) (by omega) (by omega)
theorem qs8 (r : Int) : Lib.encodeRune r ≠ [] := by
 intro e;have := Lib.encodeRuneZ_length r;have h := congrArg List.length e;simp only [Lib.encodeRune,List.length_map,List.length_nil] at h;omega
theorem qio (r : Int) (h : Vg r) (b : List UInt8) : rn (Lib.encodeRune r ++ b) = (r,(Lib.encodeRune r).length) :: rn b := by
 rw [qst _ (by simp [qs8]),qqm r h b]
 have h0 : 0 ≤ r := by unfold Vg at h;omega
 simp only [List.drop_left,Int.toNat_of_nonneg h0]
theorem q0s : ∀ (f : Nat) (l : List UInt8), ∀ x ∈ rl f l, Vg x.1
 | 0,_,x,hx => by simp [rl] at hx
 | f + 1,l,x,hx => by
  by_cases hl : l = []
  ·subst hl;rw [qpc] at hx;cases hx
  ·rw [qfd f l hl] at hx
   rcases List.mem_cons.1 hx with rfl | hx
   ·exact q1v l
   ·exact q0s f _ x hx
def anew : List (Int × Nat) → List (Int × Nat)
 | [] => []
 | x :: t => if 0 < wd x.1 then (x.1,(Lib.encodeRune x.1).length) :: anew t else anew t
theorem qmi : ∀ L : List (Int × Nat), (∀ x ∈ L, Vg x.1) → rn (Xq L) = anew L
 | [],_ => rfl
 | x :: t,h => by
  have ht := qmi t (fun y hy => h y (by simp [hy]))
  unfold Xq anew;split
  ·rw [qio x.1 (h x (by simp)),ht]
  ·simpa using ht
def enc (l : List (Int × Nat)) : List UInt8 := l.flatMap fun x => Lib.encodeRune x.1
theorem qr3 : ∀ (L : List (Int × Nat)), (∀ x ∈ L, Vg x.1) → ∀ x ∈ anew L, Vg x.1 ∧ 0 < wd x.1 ∧ x.2 = (Lib.encodeRune x.1).length
 | [],_ => by simp [anew]
 | x :: t,h => by
  have ih := qr3 t (fun y hy => h y (by simp [hy]))
  intro y hy;unfold anew at hy;split at hy
  ·rename_i h0
   rcases List.mem_cons.1 hy with e | e
   ·subst e
    exact ⟨h x (by simp),h0,rfl⟩
   ·exact ih y e
  ·exact ih y hy
theorem qac : ∀ (l : List Int) (a : List UInt8), l.foldl (fun r n => r ++ Utf8.encode n) (bs a) = bs (a ++ l.flatMap Lib.encodeRune)
 | [],a => by simp
 | x :: t,a => by
  have ih := qac t (a ++ Lib.encodeRune x)
  show t.foldl (fun r n => r ++ Utf8.encode n) (bs a ++ Utf8.encode x) = _
  rw [encode_eq,qtk,ih,List.flatMap_cons,List.append_assoc]
theorem qg3 (l : List Int) : runesBytes l = bs (l.flatMap Lib.encodeRune) := by
 have h := qac l [];rw [List.nil_append] at h;exact h
theorem qw2 : ∀ l : List Int, (∀ x ∈ l, Vg x) → rn (l.flatMap Lib.encodeRune) = l.map fun x => (x, (Lib.encodeRune x).length)
 | [],_ => rfl
 | x :: t,h => by
  have ih := qw2 t (fun y hy => h y (by simp [hy]))
  rw [List.flatMap_cons,qio x (h x (by simp)),ih]
  rfl
theorem qhe : ∀ l : List Int, (∀ x ∈ l, 0 < wd x) → Xq (l.map fun x => (x, (Lib.encodeRune x).length)) = l.flatMap Lib.encodeRune
 | [],_ => rfl
 | x :: t,h => by
  have ih := qhe t (fun y hy => h y (by simp [hy]))
  have hx := h x (by simp)
  rw [List.map_cons,List.flatMap_cons]
  show (if 0 < wd x then Lib.encodeRune x else []) ++ _ = _
  rw [if_pos hx,ih]
theorem qil (s : ByteArray) : ∀ f pos : Nat, Lib.runeCountFrom s f pos = (rs s f pos).length
 | 0,_ => rfl
 | f + 1,pos => by
  unfold Lib.runeCountFrom rs;split
  ·rw [qil s f]
   simp [Nat.add_comm]
  ·rfl
theorem qc7 (s : ByteArray) : Lib.runeCount s = (runes s).length := qil s _ _
end Txt
namespace Put
open Grd (C)
def Jt (t : ByteArray) : List Int := (Txt.runes t).map (·.1)
def qsc (t : ByteArray) : ByteArray := runesBytes ((Jt t).take (min (Jt t).length 20))
def qbh (t : ByteArray) : ByteArray := qsc (Txt.bs (Txt.Xq (Txt.runes t)))
def qch (s : Scr) (t : ByteArray) : Scr := { s with title := qbh t }
theorem qvs (t : ByteArray) : J6 (qbh t) = true := by
 have hok : ∀ x ∈ Txt.runes t,Txt.Vg x.1 := by
  intro x hx;rw [Txt.qck] at hx;exact Txt.q0s _ _ x hx
 have hA := Txt.qr3 (Txt.runes t) hok;have hR : Txt.runes (Txt.bs (Txt.Xq (Txt.runes t))) = Txt.anew (Txt.runes t) := by rw [Txt.qck,Txt.qsa];exact Txt.qmi _ hok
 obtain ⟨l,hl⟩ : ∃ l,l = (Jt (Txt.bs (Txt.Xq (Txt.runes t)))).take (min (Jt (Txt.bs (Txt.Xq (Txt.runes t)))).length 20) := ⟨_,rfl⟩;have hm : ∀ x ∈ l,Txt.Vg x ∧ 0 < Txt.wd x := fun x hx => by
  rw [hl] at hx;have h1 := List.mem_of_mem_take hx;unfold Jt at h1;rw [hR] at h1;obtain ⟨y,hy,e⟩ := List.mem_map.1 h1;have h2 := hA y hy;rw [← e];exact ⟨h2.1,h2.2.1⟩
 have hlen : l.length ≤ 20 := by rw [hl,List.length_take];omega
 have ht : qbh t = Txt.bs (l.flatMap Lib.encodeRune) := by
  unfold qbh qsc;rw [← hl,Txt.qg3]
 have hrn : Txt.runes (qbh t) = l.map fun x => (x,(Lib.encodeRune x).length) := by rw [ht,Txt.qck,Txt.qsa,Txt.qw2 l fun x hx => (hm x hx).1]
 unfold J6;rw [hrn,Txt.qhe l fun x hx => (hm x hx).2,← ht,Txt.qc7,hrn,List.length_map]
 simp [hlen]
theorem qgx {s : Scr} {n hh : Nat} (h : Qg s n hh) (t : ByteArray) : Qg (qch s t) n hh :=
 ⟨h.w,h.h,h.n1,h.n2,h.h1,h.h2,h.cl,h.gz,h.x0,h.x1,h.y0,h.y1,h.kx0,h.kx1,h.ky0,h.ky1,h.t0,h.t1,h.t2,h.t3,h.late,h.looks,h.tl,h.la,qvs t,h.gl,h.gr⟩
end Put
theorem Txt.qbp : ∀ L : List (Int × Nat), (Txt.Xq L).length ≤ 4 * L.length
 | [] => by simp [Txt.Xq]
 | x :: t => by
  have h1 := Txt.qbp t;have h2 := (Txt.Ul x.1).2;unfold Txt.Xq;rw [List.length_append,List.length_cons];split
  ·omega
  ·simp
   omega
namespace Put
open Grd (C)
theorem qb6 (s : ByteArray) : ∀ (f i : Nat) (acc : Array Value), Conv.runesFrom s f i acc = acc ++ ((Txt.rs s f i).map (fun x => Value.int .i32 x.1)).toArray
 | 0,_,acc => by simp [Conv.runesFrom,Txt.rs]
 | f + 1,i,acc => by
  unfold Conv.runesFrom Txt.rs
  by_cases h : i < s.size
  ·rw [if_pos h, if_pos h]
   simp only [];rw [qb6 s f];simp
  ·rw [if_neg h, if_neg h]
   simp
theorem qoa (t : ByteArray) : Conv.runesFrom t t.size 0 #[] = ((Jt t).map (Value.int .i32)).toArray := by
 rw [qb6];unfold Jt Txt.runes;simp
theorem qqd (s : ByteArray) : ∀ (f i : Nat), (Txt.rs s f i).length ≤ f
 | 0,_ => by simp [Txt.rs]
 | f + 1,i => by
  unfold Txt.rs;split
  ·have := qqd s f (i + (Utf8.decode s i).2)
   simp;exact this
  ·simp
theorem q1g (t : ByteArray) : (Jt t).length ≤ t.size := by
 unfold Jt Txt.runes;rw [List.length_map];exact qqd t _ _
def V7 (W : World) (zs : List Int) : World := W.drew.alloc (.cells ((zs.map (Value.int .i32)).toArray ++ Array.replicate (grownCap W zs.length 0 21 - zs.length) (.int .i32 0)) 21)
theorem qmr (t : ByteArray) (ht : t.size ≤ 70368744177664) (W : World) : (convert 9 76 (.string t)).run qP W = .ok (.slice (some ⟨W.heap.size,0,none⟩) (Jt t).length (grownCap W (Jt t).length 0 21)) (V7 W (Jt t)) := by
 have hz := q1g t;have hs : (Conv.runesFrom t t.size 0 #[]).size = (Jt t).length := by rw [qoa];simp
 have h := run_runes_of_string (P := qP) W 9 76 21 t (by kernel_rfl) (by kernel_rfl) (by kernel_rfl) (by omega)
 rw [h,hs,qoa]
 rfl
theorem qkt (W : World) (zs : List Int) : Below W.heap.size W (V7 W zs) := ((qr _ W).drew).alloc (qd _) _
theorem qnh (W : World) (zs : List Int) (j : Nat) (hj : j < zs.length) : (V7 W zs).cell? ((⟨W.heap.size,0,none⟩ : Addr).add j) = some (.int .i32 (zs.getD j 0)) := by
 have h := qf W.drew (.cells ((zs.map (Value.int .i32)).toArray ++ Array.replicate (grownCap W zs.length 0 21 - zs.length) (.int .i32 0)) 21);have h2 : (V7 W zs).heap[W.heap.size]? = some (.cells ((zs.map (Value.int .i32)).toArray ++ Array.replicate (grownCap W zs.length 0 21 - zs.length) (.int .i32 0)) 21 (0,0)) := h;rw [Addr.add_mid,Nat.zero_add];unfold World.cell?;rw [h2];have hl : j < (zs.map (Value.int .i32)).toArray.size := by simpa using hj
 simp only [];rw [Array.getElem?_append_left hl];simp [qy,hj]
theorem qtb (W : World) (zs : List Int) (k cap : Nat) (hk : k ≤ zs.length) : (convert 76 9 (.slice (some ⟨W.heap.size, 0, none⟩) k cap)).run qP (V7 W zs) = .ok (.string (runesBytes (zs.take k))) (V7 W zs) :=
 run_convert_runes (P := qP) (V7 W zs) 76 9 21 ⟨W.heap.size,0,none⟩ k cap zs hk (by kernel_rfl) (by kernel_rfl) (by kernel_rfl) (qnh W zs)
theorem qyn (W : World) (zs : List Int) : zs.length ≤ grownCap W zs.length 0 21 := grownCap_ge W zs.length 0 21
theorem qup (B1 M : Nat) (w : World) (s : Scr) (rows : List (List C)) (t : ByteArray) (hB1 : w.cell? ⟨B1, 0, none⟩ = some (.string t)) (hT : Txt.Tab w) (ht : t.size ≤ 1048576) :
  Does 166 #[.pointer (some ⟨B1,0,none⟩)] M w s (qch s t) rows rows := by
 intro W p hb hS;have hlo := hS.lo;have q1 := Qa hb hB1;obtain ⟨u,hu⟩ : ∃ u,u = Txt.bs (Txt.Xq (Txt.runes t)) := ⟨_,rfl⟩;have hus : u.size ≤ 70368744177664 := by
  have h1 := Txt.qbp (Txt.runes t);have h2 := qqd t t.size 0;rw [hu,Txt.q0n];unfold Txt.runes at h1 ⊢;omega
 have HCL : Hid (∀ V,Below W.heap.size W V → Calls qP 42 #[.string t] V fun e w' => e = .returned (.string u) ∧ Below V.heap.size V w') := fun V h => by
  rw [hu];exact Txt.qjf t V (Grd.Tab.next hT (hb.trans (h.mono hb.size))) (by omega)
 have HNS : Hid (qch s t = { s with title := qsc u }) := by unfold Hid qch qbh;rw [hu]
 generalize qch s t = s' at *;have HCT : Hid (qsc u = runesBytes ((Jt u).take (min (Jt u).length 20))) := rfl;have HS : Hid (ShAt 110 W M w.heap.size p s rows) := hS;have SK : Hid (∀ V,Below W.heap.size W V → V.cell? ⟨p,20,none⟩ = some (.string s.title) ∧ V.frozen? ⟨p,20,none⟩ = false) := fun V h => by
  obtain ⟨cv,tv,gv,rv,hblk⟩ := (ShAt.next HS.out h).block;obtain ⟨-,⟨-,-,-,-,-,-,-,-,-,c20,-⟩,fz⟩ := Qr hblk;exact ⟨c20,fz 20⟩
 have HF : Hid (∀ V,Below W.heap.size W V → ShAt 110 (V.setCell ⟨p,20,none⟩ (.string (runesBytes ((Jt u).take (min (Jt u).length 20))))) M w.heap.size p s' rows ∧ Below w.heap.size W (V.setCell ⟨p,20,none⟩ (.string (runesBytes ((Jt u).take (min (Jt u).length 20)))))) := fun V h => by
  rw [HNS.out,HCT.out];exact ⟨ShAt.set Qp (ShAt.next HS.out h) 20 _ (fun _ _ _ _ => rfl) rfl rfl,(h.mono hb.size).setCell hlo _⟩
 have HCV : Hid (∀ V : World,(convert 9 76 (.string u)).run qP V = .ok (.slice (some ⟨V.heap.size,0,none⟩) (Jt u).length (grownCap V (Jt u).length 0 21)) (V7 V (Jt u))) := qmr u hus;have HBC : Hid (∀ V cap,(convert 76 9 (.slice (some ⟨V.heap.size,0,none⟩) (min (Jt u).length 20) cap)).run qP (V7 V (Jt u)) = .ok (.string (runesBytes ((Jt u).take (min (Jt u).length 20)))) (V7 V (Jt u))) := fun V cap => qtb V _ _ cap (Nat.min_le_left _ _)
 have HGE : Hid (∀ V,(Jt u).length ≤ grownCap V (Jt u).length 0 21) := fun V => qyn V (Jt u)
 have hm2 := Grd.min2 ((Jt u).length : Int) 20;have hmk : min ((Jt u).length : Int) 20 = ((min (Jt u).length 20 : Nat) : Int) := by omega
 have hkl := Nat.min_le_left (Jt u).length 20;rw [hmk] at hm2;clear hmk;generalize runesBytes ((Jt u).take (min (Jt u).length 20)) = res at *;generalize min (Jt u).length 20 = k at *;generalize Jt u = zs at *;have HRB : Hid (∀ V,Below V.heap.size V (V7 V zs)) := fun V => qkt V zs
 clear hS hB1 ht hu hus HCT HNS
 show Calls _ _ #[.pointer (some ⟨p,0,none⟩),.pointer (some ⟨B1,0,none⟩)] _ _
 go_enter Tryz.func166,Tryz.ntmps166;go_wp2_with fail;refine (HCL.out _ (qr _ _)).mono ?_;rintro e V ⟨rfl,bV⟩;have cv := HCV.out V;have cb := HBC.out V;have hge := HGE.out V;generalize grownCap V zs.length 0 21 = cap at *;have kR : Below W.heap.size W (V7 V zs) := bV.trans ((HRB.out V).mono bV.size);obtain ⟨c20,f20⟩ := SK.out _ kR;have HFI : Hid _ := HF.out _ kR;have hkc : (k : Int) ≤ (cap : Int) := by omega
 have cb' := cb cap;clear HCL HCV HBC HGE SK HF bV q1 hge kR HRB cb;generalize V7 V zs = R at *;go_wp2_with fail;go_end0;exact ⟨rfl,HFI.out⟩
end Put
namespace Put
open Grd (C SliceAt Qb Qf z0 Q0 Qe Js flat)
def Gu (W : World) (N : Nat) (v : Value) (n : Nat) (vs : List Value) : Prop :=
 vs.length = n ∧ ((n = 0 ∧ ∃ a c,v = .slice a 0 c) ∨ ∃ g o cap A,v = .slice (some ⟨g,o,none⟩) n cap ∧ N ≤ g ∧ n ≤ cap ∧ cap ≤ 9223372036854775807 ∧ W.heap[g]? = some (.cells A 22 (0,0)) ∧ ∀ j,j < n → A[o + j]? = some (vs.getD j Q0))
theorem Gu.of {W : World} {N : Nat} {v : Value} {n : Nat} {vs : List Value} (h : W.ownsRow N 22 1 v n vs) : Gu W N v n vs := by
 obtain ⟨h0,⟨rfl,rfl⟩ | ⟨g,cap,cur,rfl,hg,hh,hc,hm,hs,htk⟩⟩ := h
 ·exact ⟨by simpa using h0,.inl ⟨rfl,none,0,rfl⟩⟩
 ·refine ⟨by simpa using h0, .inr ⟨g, 0, cap, cur, rfl, hg, hc, by unfold maxLen at hm; omega, hh, fun j hj => ?_⟩⟩
  have hl : vs.length = n := by simpa using h0
  rw [Nat.zero_add];have e : cur[j]? = vs[j]? := by rw [← htk,← Array.getElem?_toList,List.getElem?_take_of_lt (by omega)]
  rw [e];simp [qy,List.getElem?_eq_getElem (show j < vs.length by omega)]
theorem Gu.next {W W' : World} {N : Nat} {v : Value} {n : Nat} {vs : List Value} (h : Gu W N v n vs) (hb : Below W.heap.size W W') : Gu W' N v n vs := by
 obtain ⟨h0,h | ⟨g,o,cap,A,hv,h1,h2,h3,h4,h5⟩⟩ := h
 ·exact ⟨h0,.inl h⟩
 ·exact ⟨h0,.inr ⟨g,o,cap,A,hv,h1,h2,h3,Grd.carry h4 hb,h5⟩⟩
theorem Gu.q14 {W : World} {N : Nat} {v : Value} {rows : List (List C)} {vs : List Value} (h : Gu W N v rows.length vs) (hr : qai W vs rows) : Vw W v rows := by
 obtain ⟨h0,⟨hn,a,c,hv⟩ | ⟨g,o,cap,A,hv,h1,h2,h3,h4,h5⟩⟩ := h
 ·exact .inl ⟨List.eq_nil_of_length_eq_zero hn,a,c,hv⟩
 ·refine .inr ⟨g, o, cap, hv, h2, h3, fun j hj => ⟨vs.getD j Q0, ?_, hr.2 j hj⟩⟩
  simp only [World.cell?,h4];rw [h5 j hj]
  rfl
end Put
namespace Put
open Grd (C SliceAt Qb Qf z0 Q0 flat Qe Y5 Js)
theorem quf {N : Nat} (v : Value) (n : Nat) (vs : List Value) (w : World) (hV : Gu w N v n vs) (hs : ∀ u, u ∈ vs → IsSl u) (hl : n ≤ 1048576) :
  Calls qP 109 #[v] w fun e w' => ∃ a c,e = .returned (.slice a n c) ∧ w'.ownsRow w.heap.size 22 1 (.slice a n c) n vs ∧ Below w.heap.size w w' := by
 obtain ⟨i0,hi,hzz⟩ := Option.map_eq_some_iff.1 qbb;simp only [Prod.mk.injEq] at hzz;obtain ⟨hz0,hz1,hz2⟩ := hzz;have qn : ∀ (w : World) (a : Option Addr) (n c n' c' : Nat),(binOp .eql 30 (.slice a n c) (.slice none n' c')).run qP w = .ok (.bool a.isNone) w := fun w a n c n' c' => Lib.run_eql_slice_nil w _ _ a n c n' c' Jh
 have kb : Below w.heap.size w (w.alloc (.cells #[] 22)) := (qr _ _).alloc (qd _) _;obtain ⟨hvl,⟨rfl,p,c,rfl⟩ | ⟨b,o,c,A,rfl,hN,hc,hm,hA,hC⟩⟩ := hV
 ·have hnil : vs = [] := List.eq_nil_of_length_eq_zero hvl
  subst hnil
  cases p with
  | none =>
   go_enter Tryz.func109,Tryz.ntmps109;go_wp2_with fail;go_ret;exact ⟨_,_,rfl,World.ownsRow_nil _ _ _ _,qr _ _⟩
  | some ad =>
   go_enter Tryz.func109,Tryz.ntmps109;go_wp2_with (at_builtin;refine wpList_append_own _ rfl _ _ 30 rfl w.heap.size 22 i0 (.slice none 0 0) 1 24 Jh hi hz0 hz1 hz2 rfl (by decide) _ _ _ rfl (World.ownsRow_made w #[] 0 (qd _) (Nat.zero_le _) rfl) ad 0 c [] rfl rfl (by simp) (by simp) (by unfold maxLen;omega) (by omega) (by simp) ?_)
   intro v' w1 hown hgrow hnil;obtain ⟨va,vc,rfl⟩ := Qz hown;go_wp2_with fail;go_ret;exact ⟨va,vc,rfl,hown,((qr _ w).alloc (qd _) _).grown hgrow (by simp) (by intro k hk;simp [Value.ownBlock] at hk;omega)⟩
 ·have HF : Hid (vs.length = n * 1) := by rw [Nat.mul_one]; exact hvl
  have HO : Hid (∀ u ∈ vs,u.oneCell' = true) := fun u hu => by obtain ⟨x,rfl⟩ := hs u hu;rfl
  have HS : Hid (∀ j u,vs[j]? = some u → (w.alloc (.cells #[] 22)).cell? ((⟨b,o,none⟩ : Addr).add j) = some u) := fun j u hj => by
   rw [Addr.add_lit];refine Qa kb ?_;have hlt := (List.getElem?_eq_some_iff.1 hj).1;have e := hC j (by omega)
   have e2 : vs.getD j Q0 = u := by simp [qy,hj]
   simp only [World.cell?,hA];rw [e2] at e;simp only [Option.isSome_none,Bool.false_eq_true,if_false];exact e
  clear hC hA hs;go_enter Tryz.func109,Tryz.ntmps109;go_wp2_with (at_builtin;refine wpList_append_own _ rfl _ _ 30 rfl w.heap.size 22 i0 (.slice none 0 0) 1 24 Jh hi hz0 hz1 hz2 rfl (by decide) _ _ _ rfl (World.ownsRow_made w #[] 0 (qd _) (Nat.zero_le _) rfl) ⟨b,o,none⟩ n c vs rfl HF.out HS.out HO.out (by unfold maxLen;omega) (by omega) (by simp) ?_)
  intro v' w1 hown hgrow hnil;obtain ⟨va,vc,rfl⟩ := Qz hown;go_wp2_with fail;go_ret;exact ⟨va,vc,rfl,hown,((qr _ w).alloc (qd _) _).grown hgrow (by simp) (by intro k hk;simp [Value.ownBlock] at hk;omega)⟩
end Put
namespace Put
open Grd (C SliceAt Qb Qf z0 Q0 flat Qe)
section
attribute [local go_sem ↓] Xp qix
attribute [local go_sem] qvz qfl qax
theorem qwy (M n hh : Nat) (s : Scr) (cv tv gv : Value) (gvs : List Value) (w0 w : World) (hM : M ≤ w0.heap.size) (hSt : ∀ b o m c, cv = .slice (some ⟨b, o, none⟩) m c → Still w0 M b) (hG : Gu w0 0 gv s.gone.length gvs) (hGI : RowsIn w0 M gvs s.gone) (hSl : ∀ v, v ∈ gvs → IsSl v) (hV : Zh w0 s cv tv gv) (hb0 : Below w0.heap.size w0 w) (hF : Fits s) (hw : s.w = n) (hh' : s.h = hh) (hz : Qf n hh s.cs = 0) :
  Calls qP 61 #[.agg (scrA s cv tv gv)] w fun e W' => ∃ p,e = .returned (.pointer (some ⟨p,0,none⟩)) ∧ ShAt 110 W' M w.heap.size p s (Qe n s.cs hh) ∧ Below w.heap.size w W' := by
 have hzz := (Grd.Zd n hh s.cs).1 hz;obtain ⟨hsz,hL,-⟩ := hzz;have hsz' : 1 ≤ (n : Int) ∧ (n : Int) ≤ 120 ∧ 1 ≤ (hh : Int) ∧ (hh : Int) ≤ 60 := by simpa [Grd.Zk] using hsz
 obtain ⟨w1,w2,w3,w4⟩ := hsz';have hne : s.cs ≠ [] := by
  intro e;rw [e] at hL;have : 1 ≤ n * hh := Nat.mul_pos (by omega) (by omega)
  simp at hL;omega
 rcases hV.c with ⟨he,-⟩ | ⟨-,b,o,cap,rfl,hc1,hc2,hC⟩
 ·exact absurd he hne
 have HST : Hid (Still w0 M b) := hSt b o _ cap rfl;have HGI : Hid (RowsIn w0 M gvs s.gone) := hGI;have HGV : Hid (Gu w0 0 gv s.gone.length gvs) := hG;have HSL : Hid (∀ v,v ∈ gvs → IsSl v) := hSl;have HMM : Hid (M ≤ w0.heap.size) := hM;clear hSt hG hGI hSl hM;have HL : Hid (s.cs.length = n * hh) := hL;rw [hL] at hc1 hV ⊢;have HC : Hid (Qb w0 b o s.cs) := hC;have HB00 : Hid (Below w0.heap.size w0 w) := hb0;have HW : Hid (s.w = n ∧ s.h = hh) := ⟨hw,hh'⟩;clear hL hC hz hsz hne hw hh';have x0 := qf w (.cells (scrA s (.slice (some ⟨b,o,none⟩) (n * hh) cap) tv gv) 32);have kb : Below w.heap.size w (w.alloc (.cells (scrA s (.slice (some ⟨b,o,none⟩) (n * hh) cap) tv gv) 32)) := (qr _ _).alloc (qd _) _;have HX0 : Hid _ := x0;have HB0 : Hid _ := kb;have HV : Hid (Zh w0 s _ tv gv) := hV;have HF : Hid (Fits s) := hF;clear x0 kb hV hF hb0;have hl0 : w.heap.size < (w.alloc (.cells (scrA s (.slice (some ⟨b,o,none⟩) (n * hh) cap) tv gv) 32)).heap.size := by simp
 go_enter Tryz.func61,Tryz.ntmps61;go_upto_region 1 with fail
 generalize w.alloc (.cells (scrA s (.slice (some ⟨b,o,none⟩) (n * hh) cap) tv gv) 32) = W1 at *;go_cut [3] from 3 to 14 (fun c wx => ∃ p rv,c = .pointer (some ⟨p,0,none⟩) ∧ w.heap.size ≤ p ∧ wx.heap[p]? = some (.cells (shA s (.slice (some ⟨b,o,none⟩) (n * hh) cap) tv gv rv) 110 (0,0)) ∧ wx.ownsRow w.heap.size 22 1 rv hh ((List.range hh).map (Ke b o n)) ∧ Below W1.heap.size W1 wx)
 case first =>
  have hn1 : 1 ≤ n := by omega
  have SK : Hid (∀ w',Below W1.heap.size W1 w' → Below W1.heap.size W1 w' ∧ Zj w' (.pointer (some ⟨w.heap.size,0,none⟩)) ∧ Z7 w' (.pointer (some ⟨w.heap.size,0,none⟩)) = scrA s (.slice (some ⟨b,o,none⟩) (n * hh) cap) tv gv ∧ w'.cell? ⟨w.heap.size,0,none⟩ = some (.int .i64 (n : Int)) ∧ w'.cell? ⟨w.heap.size,2,none⟩ = some (.slice (some ⟨b,o,none⟩) (n * hh) cap)) := fun w' hb => by
   have hx := Grd.carry HX0.out hb;have q := Qi hx;rw [HW.out.1] at q;exact ⟨hb,(Qs hx).1,(Qs hx).2,q.1.1,q.1.2.2.1⟩
  have b0 : Below W1.heap.size W1 W1.drew := (qr _ _).drew;have HC1 : Hid (n * hh ≤ cap) := hc1;have hh1 : 0 < hh := by omega
  clear hc1
  go_region_held3 (fun w' => Below W1.heap.size W1 w' ∧ Zj w' (.pointer (some ⟨w.heap.size, 0, none⟩)) ∧ Z7 w' (.pointer (some ⟨w.heap.size, 0, none⟩)) = scrA s (.slice (some ⟨b, o, none⟩) (n * hh) cap) tv gv ∧ w'.cell? ⟨w.heap.size, 0, none⟩ = some (.int .i64 (n : Int)) ∧ w'.cell? ⟨w.heap.size, 2, none⟩ = some (.slice (some ⟨b, o, none⟩) (n * hh) cap))
   (first | exact SK.out _ (c2.alloc c2.size _) | exact SK.out _ c2 | exact SK.out _ c1 | exact SK.out _ b0)
   (first | (go_at_call 107;refine (ql8 _ _ _ n hn1 _).mono ?_;rintro e V1 ⟨Bs,Bn,rfl,l1,l2,q1,q2,b1⟩;have c1 := b0.trans (b1.mono b0.size);clear b1) | (go_at_call 106;refine (qee Bs Bn b o n hh cap hn1 (by omega) (by omega) HC1.out _ l1 l2 q1 q2).mono ?_;rintro e V2 ⟨v,rfl,ho,b2⟩;have c2 := c1.trans (b2.mono c1.size);have HO : Hid (V2.ownsRow V1.heap.size 22 1 v hh ((List.range hh).map (Ke b o n))) := ho;obtain ⟨g,cp,rfl⟩ := qi3 ho hh1;clear b2 ho q1 q2))
  go_wp2_with fail;go_meet;exact ⟨V2.heap.size,_,rfl,Nat.le_trans (Nat.le_of_lt hl0) c2.size,qf _ _,Grd.Q4 (World.ownsRow.alloc HO.out _) (by have := c1.size;omega),c2.alloc c2.size _⟩
 case rest =>
  obtain ⟨p,rv,rfl,hp,hblk,hown,hb⟩ := hcut;have hne : w.heap.size ≠ p := by
   intro e;rw [← e,Grd.carry HX0.out hb] at hblk;injection hblk with hblk
   injection hblk with _ hblk _
   exact absurd hblk (by decide)
  have HX1 : Hid _ := Grd.carry HX0.out hb;have HP1 : Hid _ := hblk;have HO1 : Hid _ := hown;have HB1 : Hid (Below w.heap.size w wc) := HB0.out.trans (hb.mono HB0.out.size);clear hblk hown hb;obtain ⟨-,⟨-,c12,-⟩,-⟩ := Qi HX1.out;go_wp2_with fail;refine (qaz tv s.tabs wc (Vx.next HV.out.t (HB00.out.trans (HB1.out.mono HB00.out.size))) HF.out.bl).mono ?_;rintro e W2 ⟨tv',rfl,ho2,b2⟩;obtain ⟨ta,tc,rfl⟩ := Qz ho2;have hp2 := Grd.carry HP1.out b2;have f12 := (Qr hp2).2.2 12;have c12' := (Qr hp2).2.1.2.1;clear c12;have HP2 : Hid _ := X9 (i := 12) (v := .slice ta s.tabs.length tc) hp2 rfl;have HX2 : Hid _ := (Zf (i := 12) (v := .slice ta s.tabs.length tc) hne).trans (Grd.carry HX1.out b2);have HT2 : Hid _ := Z5 (i := 12) (v := .slice ta s.tabs.length tc) ho2 hp2 (by decide)
  have HO2 : Hid _ := Z5 (i := 12) (v := .slice ta s.tabs.length tc) (Jv HO1.out b2) hp2 (by decide)
  have HB2 : Hid (Below w.heap.size w (W2.setCell ⟨p,12,none⟩ (.slice ta s.tabs.length tc))) := (HB1.out.trans (b2.mono HB1.out.size)).setCell hp _;have c20 := (Qi (Grd.carry HX1.out b2)).2.1.2.2.2.2.2.2.2.2.2.1;clear ho2 b2 hp2;go_wp2_with fail;refine (Txt.Gf s.title _ (by have := HF.out.tl;omega)).mono ?_
  rintro e W4 ⟨rfl,b4⟩;have hp4 := Grd.carry HP2.out b4;have f20 := (Qr hp4).2.2 20;have c20' := (Qr hp4).2.1.2.2.2.2.2.2.2.2.2.1;have HP4 : Hid _ := X9 (i := 20) (v := .string s.title) hp4 rfl;have HX4 : Hid _ := (Zf (i := 20) (v := .string s.title) hne).trans (Grd.carry HX2.out b4);have HT4 : Hid _ := Z5 (i := 20) (v := .string s.title) (Jv HT2.out b4) hp4 (by decide)
  have HO4 : Hid _ := Z5 (i := 20) (v := .string s.title) (Jv HO2.out b4) hp4 (by decide)
  have HB4 : Hid (Below w.heap.size w (W4.setCell ⟨p,20,none⟩ (.string s.title))) := (HB2.out.trans (b4.mono HB2.out.size)).setCell hp _;have c21 := (Qi (Grd.carry HX2.out b4)).2.1.2.2.2.2.2.2.2.2.2.2;clear b4 hp4 c20 c12' f12;go_wp2_with fail;refine (quf _ _ gvs _ (Gu.next HGV.out (HB00.out.trans (HB4.out.mono HB00.out.size))) HSL.out (by have := HF.out.gl;omega)).mono ?_
  rintro e W6 ⟨ga,gc,rfl,ho6,b6⟩;have hp6 := Grd.carry HP4.out b6;have f21 := (Qr hp6).2.2 21;have c21' := (Qr hp6).2.1.2.2.2.2.2.2.2.2.2.2.1;have HP6 : Hid _ := X9 (i := 21) (v := .slice ga s.gone.length gc) hp6 rfl;have HT6 : Hid _ := Z5 (i := 21) (v := .slice ga s.gone.length gc) (Jv HT4.out b6) hp6 (by decide)
  have HO6 : Hid _ := Z5 (i := 21) (v := .slice ga s.gone.length gc) (Jv HO4.out b6) hp6 (by decide)
  have HG6 : Hid _ := Z5 (i := 21) (v := .slice ga s.gone.length gc) ho6 hp6 (by decide)
  have HB6 : Hid (Below w.heap.size w (W6.setCell ⟨p,21,none⟩ (.slice ga s.gone.length gc))) := (HB4.out.trans (b6.mono HB4.out.size)).setCell hp _;clear ho6 b6 hp6 c21 c20' f20;go_wp2_with fail;go_ret;have hk : Kept M w0 (W6.setCell ⟨p,21,none⟩ (.slice ga s.gone.length gc)) := fun k hk _ => (HB00.out.trans (HB6.out.mono HB00.out.size)).block k hk
  refine ⟨p,rfl,⟨_,_,_,_,gvs,(List.range hh).map (Ke b o n),HP6.out,hp,Nat.le_trans HMM.out HB00.out.size,⟨_,_,_,rfl⟩,Grd.Q4 HT6.out HB1.out.size,Grd.Q4 HG6.out HB4.out.size,RowsIn.keep HGI.out hk,?_,?_,?_⟩,HB6.out⟩
  ·rw [Grd.Qt]
   exact HO6.out
  ·refine ⟨by rw [Grd.Qt]; simp, fun i hi => ?_⟩
   rw [Grd.Qt] at hi;have e1 : ((List.range hh).map (Ke b o n)).getD i Q0 = Ke b o n i := by simp [qy,hi]
   have e2 : (Qe n s.cs hh).getD i [] = Grd.rowAt n s.cs i := by simp [Qe,qy,hi]
   have hle : i * n + n ≤ n * hh := by
    have : (i + 1) * n ≤ hh * n := Nat.mul_le_mul_right n hi;rw [Nat.mul_comm n hh];rw [Nat.add_mul] at this;omega
   have hlen : (Grd.rowAt n s.cs i).length = n := by
    unfold Grd.rowAt;rw [List.length_take,List.length_drop,HL.out];omega
   have hC2 := HC.out.part (i * n) n (by rw [HL.out];exact hle)
   have hr : X3 w0 M (Ke b o n i) (Grd.rowAt n s.cs i) := .inr ⟨by intro e;rw [e] at hlen;simp at hlen;omega,b,_,n,by unfold Ke;rw [hlen],by omega,by omega,hC2,HST.out⟩
   rw [e1,e2];exact hr.keep hk
  ·intro k h1 h2
   obtain ⟨-,A,f,hA⟩ := Qn HO4.out k h1;obtain ⟨hB,-⟩ := Qn HG6.out k h2;have := Qc hA;omega
end
theorem q1e (s : Scr) (a1 a2 a3 a4 : Option Addr) (n1 n2 n3 n4 c1 c2 c3 c4 : Nat) : (shA s (.slice a1 n1 c1) (.slice a2 n2 c2) (.slice a3 n3 c3) (.slice a4 n4 c4)).all (·.oneCell') = true := by simp [shA,Value.oneCell']
theorem ShA.move {t : TypeId} (ht : X6 t) {W W' : World} {M N N0 q p : Nat} {s : Scr} {rows : List (List C)} {cv tv gv rv : Value} {gvs vs : List Value} {A : Array Value} {f : Nat × Nat} (h : ShA t W M N q s rows cv tv gv rv gvs vs) (hold : W.heap[p]? = some (.cells A t f)) (hN : N0 ≤ N) (hM : M ≤ N0) (hlo : N0 ≤ p)
  (hp : W'.heap[p]? = some (.cells (shA s cv tv gv rv) t (0,0))) (ho : ∀ k,k ≠ p → W'.heap[k]? = W.heap[k]?) : ShA t W' M N0 p s rows cv tv gv rv gvs vs := by
 have hne : ∀ {e : TypeId} {v : Value} {n : Nat} {xs : List Value},t ≠ e → W.ownsRow N e 1 v n xs → ∀ g,v.ownBlock = some g → W'.heap[g]? = W.heap[g]? := fun hte hw g hg => by
  obtain ⟨-,B,f',hB⟩ := Qn hw g hg;refine ho g fun e => ?_
  subst e;rw [hold] at hB;injection hB with hB
  injection hB with _ hB _
  exact hte hB
 have hk : Kept M W W' := fun k hk hS => by
  refine ho k fun e => ?_
  subst e
  rcases hS with hS | ⟨B,f',hS⟩
  ·omega
  ·rw [hold] at hS
   injection hS with hS
   injection hS with _ hS _
   exact ht.2.2 hS
 exact ⟨hp,hlo,hM,h.cvs,Grd.Q4 (Ze h.tabs (hne ht.1 h.tabs)) hN,Grd.Q4 (Ze h.gone (hne ht.2.1 h.gone)) hN,h.gin.keep hk,Grd.Q4 (Ze h.rws (hne ht.2.1 h.rws)) hN,h.rin.keep hk,h.two⟩
theorem qpv (M N p n hh : Nat) (s fr : Scr) (rows : List (List C)) (cv tv gv : Value) (gvs : List Value) (W : World) (hS : ShAt 110 W M N p s rows) (hN : N ≤ W.heap.size) (hSt : ∀ b o m c, cv = .slice (some ⟨b, o, none⟩) m c → Still W M b) (hG : Gu W 0 gv fr.gone.length gvs) (hGI : RowsIn W M gvs fr.gone) (hV : Zh W fr cv tv gv) (hF : Fits fr) (hw : fr.w = n) (hh' : fr.h = hh) (hz : Qf n hh fr.cs = 0) :
  Calls qP 140 #[.pointer (some ⟨p,0,none⟩),.agg (scrA fr cv tv gv)] W fun e W' => e = .returned (.tuple #[]) ∧ ShAt 110 W' M N p fr (Qe n fr.cs hh) ∧ Below N W W' := by
 obtain ⟨ov,otv,ogv,orv,ogvs,ovs,hA⟩ := hS;have kb : Below W.heap.size W (W.alloc (.cells (scrA fr cv tv gv) 32)) := (qr _ _).alloc (qd _) _;have x0 := qf W (.cells (scrA fr cv tv gv) 32);have hMW : M ≤ W.heap.size := Nat.le_trans hA.ml hN;have HOP := qwy M n hh fr cv tv gv gvs W _ hMW hSt hG hGI hGI.sls hV kb hF hw hh' hz;have HA : Hid (ShA 110 W M N p s rows ov otv ogv orv ogvs ovs) := hA;have HX0 : Hid _ := x0;have HKB : Hid _ := kb;clear x0 kb hA hSt hG hGI hV hF hw hh' hz;go_enter Tryz.func140,Tryz.ntmps140;go_upto_region 1 with fail
 generalize W.alloc (.cells (scrA fr cv tv gv) 32) = X at *;go_wp2_with (refine ql rfl 32 (.tmp 3) rfl W.heap.size rfl _ _ _ _ HX0.out Tryz.underlying32 rfl (by kernel_rfl) ?_)
 refine HOP.mono ?_;rintro e V ⟨q,rfl,⟨cv',tv',gv',rv',gvs',vs',hQ⟩,b1⟩;obtain ⟨a1,n1,c1,rfl⟩ := hQ.cvs;obtain ⟨a2,c2,rfl⟩ := Qz hQ.tabs;obtain ⟨a3,c3,rfl⟩ := Qz hQ.gone;obtain ⟨a4,c4,rfl⟩ := Qz hQ.rws;have hbV : Below W.heap.size W V := HKB.out.trans (b1.mono HKB.out.size);have hpV := Grd.carry HA.out.blk hbV;have HPV : Hid (V.heap[p]? = _) := hpV;have HQ : Hid _ := hQ;have HQB : Hid (V.heap[q]? = _) := hQ.blk;have HBV : Hid (Below W.heap.size W V) := hbV;have HXS : Hid (W.heap.size ≤ X.heap.size) := HKB.out.size;clear hQ b1 hbV hpV HOP HX0 HKB
 go_wp2_with (first
  | (refine ql rfl 110 (.tmp 7) rfl q rfl _ _ _ _ HQB.out Tryz.underlying110 rfl (by kernel_rfl) ?_)
  | (refine wpList_store_row rfl 110 (.tmp 9) _ rfl p (shA fr (.slice a1 n1 c1) (.slice a2 fr.tabs.length c2) (.slice a3 fr.gone.length c3) (.slice a4 (Qe n fr.cs hh).length c4)) rfl rfl _ _ HPV.out (by kernel_rfl) rfl (q1e _ _ _ _ _ _ _ _ _ _ _ _ _) ?_))
 go_end0;refine ⟨rfl,⟨_,_,_,_,_,_,ShA.move Qp HQ.out HPV.out (Nat.le_trans hN HXS.out) HA.out.ml HA.out.lo (qj _ _ _ _ _ _ HPV.out) (fun k hk => qg _ _ _ _ hk)⟩,qi (HBV.out.mono hN) HA.out.lo _⟩
end Put
namespace Put
open Grd (C SliceAt Qb Qf z0 Q0 flat Qe Y5 Zk)
def Yt (n : Nat) : List Bool := (List.range n).map fun x => decide (0 < x ∧ x % 8 = 0)
def Qw (n hh : Nat) : Scr := ⟨n,hh,qe (n * hh) (32,0,0,0),0,0,false,0,0,0,0,(hh : Int) - 1,4,Yt n,0,0,0,0,0,4,0,⟨#[]⟩,[]⟩
def qdp (a b y : Int) : Scr := ⟨a,b,[],0,0,false,0,0,0,0,y,4,[],0,0,0,0,0,4,0,⟨#[]⟩,[]⟩
def qsp (v : Value) : Prop := ∃ a b q l c,v = .agg #[.int .i64 a,.int .i64 b,.slice q l c]
theorem qzs (a b : Int) (q : Option Addr) (l c : Nat) : qsp (.agg #[.int .i64 a,.int .i64 b,.slice q l c]) := ⟨a,b,q,l,c,rfl⟩
def qwc (v : Value) : Prop := ∃ a,v = .int .i64 a
theorem q1u (a : Int) : qwc (.int .i64 a) := ⟨a,rfl⟩
def qka (v : Value) : Prop := v = .agg #[.int .i64 0,.int .i64 0,.int .i64 0,.int .i64 0,.int .i64 0,.int .i64 4]
theorem qz5 : qka (.agg #[.int .i64 0,.int .i64 0,.int .i64 0,.int .i64 0,.int .i64 0,.int .i64 4]) := rfl
def qyr (x y u : Value) : Array Value := #[(qod x).getD 0 undef,(qod x).getD 1 undef,(qod x).getD 2 undef,.int .i64 0,.int .i64 0,.bool false,.int .i64 0,.int .i64 0,.int .i64 0,.int .i64 0,y,.int .i64 4,u,.int .i64 0,.int .i64 0,.int .i64 0,.int .i64 0,.int .i64 0,.int .i64 4,.int .i32 0,.string ⟨#[]⟩,.slice none 0 0]
theorem qf0 (a b y : Int) (cv tv : Value) : qyr (.agg #[.int .i64 a,.int .i64 b,cv]) (.int .i64 y) tv = scrA (qdp a b y) cv tv (.slice none 0 0) := rfl
theorem qif (W : World) (a b y : Int) (q : Option Addr) (l c : Nat) (q' : Option Addr) (l' c' : Nat) : (Instr.build 32 #[(0,.agg #[.int .i64 a,.int .i64 b,.slice q l c]),(6,.int .i64 y),(7,.int .i64 4),(9,.agg #[.int .i64 0,.int .i64 0,.int .i64 0,.int .i64 0,.int .i64 0,.int .i64 4]),(8,.slice q' l' c')]).run qP W = .ok (.agg (scT (qdp a b y) q l c q' l' c' none 0 0)) W := by kernel_rfl
theorem qt7 (a : Act) (dst : Option Tmp) (x y z u : Operand) (ty : TypeId) (pos : String) (after : Array Edge) (guard : Option (Nat × Bool)) (W : World) (hx : qsp (a.eval x)) (hy : qwc (a.eval y)) (hz : qka (a.eval z)) (hu : qgh (a.eval u)) :
  (execOp a.eval { dst,op := .build 32 #[(0,x),(6,y),(7,Operand.const (.int .i64 4)),(9,z),(8,u)],type := ty,pos,after,guard }).run qP W = .ok (.value (.agg (qyr (a.eval x) (a.eval y) (a.eval u)))) W := by
 obtain ⟨a1,b1,q,l,c,hx⟩ := hx;obtain ⟨y1,hy⟩ := hy;unfold qka at hz;obtain ⟨q',l',c',hu⟩ := hu;have e4 : a.eval (Operand.const (.int .i64 4)) = .int .i64 4 := rfl;unfold execOp;simp only [List.map_toArray,List.map_cons,List.map_nil,hx,hy,hz,hu,e4,qf0,Sem.run_bind,qif,Sem.run_pure,Result.andThen_ok]
def qga (n x : Nat) : List Bool := (List.range n).map fun j => decide (0 < j ∧ j % 8 = 0 ∧ j < x)
def qae (n x : Nat) : Array Value := ((qga n x).map Value.bool).toArray
theorem qt5 (n x : Nat) (h : n ≤ x) : qga n x = Yt n := by
 unfold qga Yt;apply List.map_congr_left;intro j hj;rw [List.mem_range] at hj;rw [decide_eq_decide];omega
theorem qps {W : World} {T n x : Nat} (h : W.heap[T]? = some (.cells (qae n x) 4 (0,0))) (hx : x < n) : W.cell? ⟨T,x,none⟩ = some (.bool false) := by
 simp [World.cell?,h,qae,qga,hx]
theorem qur (n x : Nat) (h8 : x % 8 = 0) (h0 : 0 < x) : (qae n x).setIfInBounds x (.bool true) = qae n (x + 8) := by
 unfold qae qga;apply Array.ext
 ·simp
 ·intro i h1 h2
  simp only [Array.size_setIfInBounds,List.size_toArray,List.length_map,List.length_range] at h1;rw [Array.getElem_setIfInBounds (by simpa using h1)]
  by_cases e : x = i
  ·subst e
   simp [h8];omega
  ·have h3 : decide (0 < i ∧ i % 8 = 0 ∧ i < x) = decide (0 < i ∧ i % 8 = 0 ∧ i < x + 8) := by rw [decide_eq_decide]; omega
   simp only [if_neg e,List.getElem_toArray,List.getElem_map,List.getElem_range,h3]
def J5 (n : Nat) : Array Value := (qe n (Value.bool false)).toArray
theorem qnn (n : Nat) : qae n 8 = J5 n := by
 unfold qae qga J5;apply Array.ext
 ·simp
 ·intro i h1 h2
  simp;omega
theorem qn0 (n : Nat) : madeCells (Value.bool false).cells (n * 1) = J5 n := by
 unfold madeCells J5;apply Array.ext
 ·simp
 ·intro i h1 h2
  have e : i % 1 = 0 := by omega
  simp [Value.cells,e]
theorem qyp (n : Nat) (hn : n ≤ 120) (W : World) : (Instr.makeSlice 27 (.int .i64 (n : Int)) (.int .i64 (n : Int))).run qP W = .ok (.slice (some ⟨W.heap.size,0,none⟩) n n) (W.alloc (.cells (J5 n) 4)) := by
 obtain ⟨i0,hi,hzz⟩ := Option.map_eq_some_iff.1 qi2;simp only [Prod.mk.injEq] at hzz;obtain ⟨hz0,hz1,hz2⟩ := hzz;have h := run_makeSlice (P := qP) (w := W) 27 4 i0 (.bool false) Gd hi hz0 .i64 .i64 (n : Int) (n : Int) (by omega) (by omega) (by rw [hz1];simp;omega) (by rw [hz2];simp;omega) (by omega)
 rw [h,hz1,Int.toNat_natCast,qn0]
section
attribute [local go_sem ↓] qt7 Jg
attribute [local go_sem] qzs q1u qz5 qfl G7 qf0 Xx Xy
theorem qjc (n hh : Nat) (w : World) (hs : Zk n hh = true) : Calls qP 12 #[.int .i64 (n : Int),.int .i64 (hh : Int)] w (Made w w (Qw n hh) 0) := by
 have hsz : 1 ≤ (n : Int) ∧ (n : Int) ≤ 120 ∧ 1 ≤ (hh : Int) ∧ (hh : Int) ≤ 60 := by simpa [Grd.Zk] using hs
 obtain ⟨w1,w2,w3,w4⟩ := hsz;have HN : Hid (∀ W,Calls qP 34 #[.int .i64 (n : Int),.int .i64 (hh : Int)] W fun e w' => ∃ v,e = .returned (.tuple #[.agg #[.int .i64 (n : Int),.int .i64 (hh : Int),v],.int .i64 0]) ∧ Y5 w' W.heap.size v (qe (n * hh) (32,0,0,0)) ∧ Below W.heap.size W w') := fun W => by
  have h := Grd.qv4 (n : Int) (hh : Int) W hs;have e : ((n : Int) * (hh : Int)).toNat = n * hh := by rw [← Int.natCast_mul,Int.toNat_natCast]
  rw [e] at h;exact h
 have hx0 := qf w (.cells zA 32);have kb : Below w.heap.size w (w.alloc (.cells zA 32)) := (qr _ _).alloc (qd _) _;have HX0 : Hid _ := hx0;have HKB : Hid _ := kb;clear hs hx0 kb;go_enter Tryz.func12,Tryz.ntmps12;go_wp2_with fail;refine (HN.out _).mono ?_;rintro e W1 ⟨v,rfl,ho,b1⟩;have HO : Hid (Y5 W1 _ v (qe (n * hh) (32,0,0,0))) := ho;obtain ⟨g,cap,rest,t,hv,-,-,-,-⟩ := ho;rw [List.length_replicate] at hv;subst hv;go_upto_region 4 with fail
 have hL : n * hh ≤ 7200 := by have := Nat.mul_le_mul (show n ≤ 120 by omega) (show hh ≤ 60 by omega);omega
 generalize hLL : n * hh = L at *;have HLL : Hid (n * hh = L) := hLL;clear hLL;have HX1 : Hid (W1.heap[w.heap.size]? = _) := Grd.carry HX0.out b1;have hb1 : Below w.heap.size w W1 := HKB.out.trans (b1.mono HKB.out.size);have xg := qf W1 (.cells #[.int .i64 (n : Int),.int .i64 (hh : Int),.slice (some ⟨g,0,none⟩) L cap] 24);have bg : Below W1.heap.size W1 (W1.alloc (.cells #[.int .i64 (n : Int),.int .i64 (hh : Int),.slice (some ⟨g,0,none⟩) L cap] 24)) := (qr _ _).alloc (qd _) _;obtain ⟨g0,g1,g2,-⟩ := Grd.cells3 xg;have HX2 : Hid _ := Grd.carry HX1.out bg;have HBG : Hid _ := bg;clear HX0 HKB b1 bg;generalize (W1.alloc (.cells #[.int .i64 (n : Int),.int .i64 (hh : Int),.slice (some ⟨g,0,none⟩) L cap] 24)) = X at *;have hwr : IntKind.i64.wrap ((hh : Int) - 1) = (hh : Int) - 1 := by rw [IntKind.wrap_i64];omega
 have hms := qyp n (by omega)
 have p1 : Zc ((X.alloc (.cells (J5 n) 4)).alloc (.cells zA 32)).drew (.pointer (some ⟨X.heap.size + 1,0,none⟩)) := Zb (show ((X.alloc (.cells (J5 n) 4)).alloc (.cells zA 32)).heap[X.heap.size + 1]? = _ from heap_alloc2_new X _ _) rfl
 have p2 : Zc ((X.alloc (.cells zA 32)).alloc (.cells (J5 n) 4)).drew (.pointer (some ⟨X.heap.size,0,none⟩)) := Zb (show ((X.alloc (.cells zA 32)).alloc (.cells (J5 n) 4)).heap[X.heap.size]? = _ from (Below.heap_alloc _ _ _ (by simp)).trans (qf _ _)) rfl
 have SK : Hid (∀ w',Below X.heap.size X w' → w'.cell? ⟨W1.heap.size,0,none⟩ = some (.int .i64 (n : Int)) ∧ w'.cell? ⟨W1.heap.size,1,none⟩ = some (.int .i64 (hh : Int)) ∧ w'.cell? ⟨W1.heap.size,2,none⟩ = some (.slice (some ⟨g,0,none⟩) L cap)) := fun w' h => ⟨Qa h g0,Qa h g1,Qa h g2⟩
 have b0 : Below X.heap.size X X.drew := (qr _ _).drew;have bF : Below X.heap.size X (X.alloc (.cells (J5 n) 4)).drew := ((qr _ _).alloc (qd _) _).drew;have bZ : Below X.heap.size X (X.alloc (.cells zA 32)).drew := ((qr _ _).alloc (qd _) _).drew;have bFZ : Below X.heap.size X ((X.alloc (.cells (J5 n) 4)).alloc (.cells zA 32)).drew := (((qr _ _).alloc (qd _) _).alloc (by simp) _).drew
 have bZF : Below X.heap.size X ((X.alloc (.cells zA 32)).alloc (.cells (J5 n) 4)).drew := (((qr _ _).alloc (qd _) _).alloc (by simp) _).drew
 go_cut [8] from 20 to 26 (fun c wx => ∃ R T,c = .pointer (some ⟨R,0,none⟩) ∧ X.heap.size ≤ R ∧ X.heap.size ≤ T ∧ R ≠ T ∧ wx.heap[R]? = some (.cells (scrA (qdp (n : Int) (hh : Int) ((hh : Int) - 1)) (.slice (some ⟨g,0,none⟩) L cap) (.slice (some ⟨T,0,none⟩) n n) (.slice none 0 0)) 32 (0,0)) ∧ wx.heap[T]? = some (.cells (J5 n) 4 (0,0)) ∧ Below X.heap.size X wx)
 case first =>
  go_region_held3 (fun w' => w'.cell? ⟨W1.heap.size, 0, none⟩ = some (.int .i64 (n : Int)) ∧ w'.cell? ⟨W1.heap.size, 1, none⟩ = some (.int .i64 (hh : Int)) ∧ w'.cell? ⟨W1.heap.size, 2, none⟩ = some (.slice (some ⟨g, 0, none⟩) L cap))
   (first | exact SK.out _ b0 | exact SK.out _ bF | exact SK.out _ bZ | exact SK.out _ bFZ | exact SK.out _ bZF | exact SK.out _ (qi bFZ (Nat.le_succ _) _) | exact SK.out _ (qi bZF (qd _) _)) (fail)
  all_goals go_wp2_with fail
  all_goals go_meet
  all_goals first
   | exact ⟨X.heap.size + 1,X.heap.size,rfl,Nat.le_succ _,qd _,Nat.succ_ne_self _,qj _ _ _ _ _ _ (show ((X.alloc (.cells (J5 n) 4)).alloc (.cells zA 32)).heap[X.heap.size + 1]? = _ from heap_alloc2_new X _ _),(qg _ _ _ _ (Nat.ne_of_lt (Nat.lt_succ_self _))).trans (show ((X.alloc (.cells (J5 n) 4)).alloc (.cells zA 32)).heap[X.heap.size]? = _ from (Below.heap_alloc _ _ _ (by simp)).trans (qf _ _)),qi bFZ (Nat.le_succ _) _⟩
   | exact ⟨X.heap.size,X.heap.size + 1,rfl,qd _,Nat.le_succ _,Nat.ne_of_lt (Nat.lt_succ_self _),qj _ _ _ _ _ _ (show ((X.alloc (.cells zA 32)).alloc (.cells (J5 n) 4)).heap[X.heap.size]? = _ from (Below.heap_alloc _ _ _ (by simp)).trans (qf _ _)),(qg _ _ _ _ (Nat.succ_ne_self _)).trans (show ((X.alloc (.cells zA 32)).alloc (.cells (J5 n) 4)).heap[X.heap.size + 1]? = _ from heap_alloc2_new X _ _),qi bZF (qd _) _⟩
 case rest =>
  obtain ⟨R,T,rfl,hR,hTT,hne,hxR,hxT,hbx⟩ := hcut;have HXR : Hid _ := hxR;have HXT : Hid (wc.heap[T]? = some (.cells (J5 n) 4 (0,0))) := hxT;have HBX : Hid (Below X.heap.size X wc) := hbx;clear p1 p2 b0 bF bZ bFZ bZF SK g0 g1 g2 hxR hxT hbx hms;go_wp2_with fail;go_loopg [9] (n + 8) (fun q i wr => ∃ x : Nat,i = .int .i64 (x : Int) ∧ x % 8 = 0 ∧ 8 ≤ x ∧ x ≤ n + 8 ∧ n + 8 - x ≤ q ∧ wr.heap[R]? = some (.cells (scrA (qdp (n : Int) (hh : Int) ((hh : Int) - 1)) (.slice (some ⟨g,0,none⟩) L cap) (.slice (some ⟨T,0,none⟩) n n) (.slice none 0 0)) 32 (0,0)) ∧ wr.heap[T]? = some (.cells (qae n x) 4 (0,0)) ∧ Below X.heap.size X wr)
  case atStart => exact ⟨8,rfl,by omega,by omega,by omega,by omega,HXR.out,by rw [qnn];exact HXT.out,HBX.out⟩
  case round =>
   obtain ⟨x,rfl,hx8,hx9,hx10,hq,hyR,hyT,hby⟩ := hrel;have HYR : Hid (wr.heap[R]? = _) := hyR;have HYT : Hid (wr.heap[T]? = some (.cells (qae n x) 4 (0,0))) := hyT;have HBY : Hid (Below X.heap.size X wr) := hby;clear HXR HXT HBX
   by_cases hlt : x < n
   ·have lt1 : ((x : Int) < (n : Int)) := by omega
    have c12 := (Qi hyR).2.1.2.1;have d1 := qps hyT hlt;have f1 := K8 hyT x;clear hyR hyT hby;go_wp2_with fail;go_roundg (n + 8 - (x + 8))
    case measure => omega
    case rel => exact ⟨x + 8,by go_num,by omega,by omega,by omega,by omega,(Zf hne).trans HYR.out,X9 HYT.out (qur n x hx8 (by omega)),HBY.out.setCell hTT _⟩
   ·have lt1 : ¬ ((x : Int) < (n : Int)) := by omega
    clear hyR hyT hby;have hyZ : wr.heap[w.heap.size]? = _ := Grd.carry HX2.out HBY.out;have HYZ : Hid _ := hyZ;clear hyZ
    go_wp2_with (first
     | (refine ql rfl 32 (.tmp 8) rfl R rfl _ _ _ _ HYR.out Tryz.underlying32 rfl (by kernel_rfl) ?_)
     | (refine wpList_store_row rfl 32 (.tmp 4) _ rfl w.heap.size (scrA (qdp (n : Int) (hh : Int) ((hh : Int) - 1)) (.slice (some ⟨g,0,none⟩) L cap) (.slice (some ⟨T,0,none⟩) n n) (.slice none 0 0)) rfl rfl _ _ HYZ.out (by kernel_rfl) rfl (Qm _ _ _ _ _ _ _ _ _ _) ?_))
    (try simp only [Exit.inBlock,Exit.then])
    refine bodyPost_ret (v := .tuple #[.agg (scrA (qdp (n : Int) (hh : Int) ((hh : Int) - 1)) (.slice (some ⟨g,0,none⟩) L cap) (.slice (some ⟨T,0,none⟩) n n) (.slice none 0 0)),.int .i64 0]) ?_ rfl ⟨.slice (some ⟨g,0,none⟩) L cap,.slice (some ⟨T,0,none⟩) n n,.slice none 0 0,rfl,?_,?_⟩
    ·exact Grd.Qd rfl _ _ w.heap.size _ _ _ _ rfl (qj _ _ _ _ _ _ HYZ.out) Tryz.underlying32 rfl (by kernel_rfl) _ rfl
    ·have hw1 := hb1.size
     have hw2 := HBG.out.size;have hw3 := Qc HX2.out;have hbA : Below W1.heap.size W1 wr := HBG.out.trans (HBY.out.mono hw2);obtain ⟨g',cap',rest',t',hv',hg',hl',hm',hh'⟩ := HO.out;injection hv' with hv1 hv2 hv3
     injection hv1 with hv1
     injection hv1 with hv1
     subst hv1 hv3;have hg2 : w.heap.size < g := by simp at hg';omega
     refine ⟨.inr ⟨g,cap,rest',t',?_,by omega,?_,hm',?_⟩,?_,[],World.ownsRow_nil _ _ _ _,rfl,fun i hi => absurd hi (by simp [Qw])⟩
     ·show _ = Value.slice _ (qe (n * hh) _).length _
      rw [List.length_replicate,HLL.out]
     ·show (qe (n * hh) _).length ≤ _
      rw [HLL.out];exact hl'
     ·show _ = some (Obj.cells (flat (qe (n * hh) _) ++ rest').toArray _ _)
      rw [HLL.out,qg _ _ _ _ (by omega)]
      exact Grd.carry hh' hbA
     ·show (wr.setRow _ _).ownsRow _ _ _ _ (Yt n).length ((Yt n).map Value.bool)
      have e := qt5 n x (by omega)
      have hlen : (Yt n).length = n := by simp [Yt]
      rw [hlen];refine ⟨by rw [List.length_map,hlen,Nat.mul_one],.inr ⟨T,n,qae n x,rfl,by omega,?_,qd _,by unfold maxLen;omega,by simp [qae,qga],?_⟩⟩
      ·rw [qg _ _ _ _ (by omega)]
       exact HYT.out
      ·unfold qae
       rw [e]
       show List.take (n * 1) ((Yt n).map Value.bool) = _
       rw [List.take_of_length_le (by rw [List.length_map,hlen,Nat.mul_one];exact qd _)]
    ·exact qi (hb1.trans ((HBG.out.trans (HBY.out.mono HBG.out.size)).mono hb1.size)) (qd _) _
end
end Put
namespace Put
open Grd (C SliceAt Qb Qf z0 Q0 flat Qe)
def qan (s : Scr) (n hh : Nat) : Scr := { Qw n hh with gone := s.gone }
theorem q1c (n hh : Nat) (hs : Grd.Zk n hh = true) : Qf n hh (Qw n hh).cs = 0 := by
 refine (Grd.Zd n hh _).2 ⟨hs,by simp [Qw],fun y hy => ?_⟩
 have hle : y * n + n ≤ n * hh := by
  have : (y + 1) * n ≤ hh * n := Nat.mul_le_mul_right n hy;rw [Nat.mul_comm n hh];rw [Nat.add_mul] at this;omega
 have e : Grd.rowAt n (Qw n hh).cs y = qe n (32,0,0,0) := by
  unfold Grd.rowAt Qw
  dsimp only
  rw [List.drop_replicate,List.take_replicate]
  congr 1
  omega
 rw [e];exact F6 n 0 (by decide)
theorem qtd {W : World} {N M : Nat} {v : Value} {cs : List C} (h : Grd.Y5 W N v cs) : ∀ b o m c,v = .slice (some ⟨b,o,none⟩) m c → Still W M b := fun b o m c e => by
 obtain ⟨g,cap,rest,⟨t,ht⟩,hv,-,-,-,hg⟩ := h;subst ht;rw [e] at hv;injection hv with hv
 injection hv with hv
 injection hv with hv _
 subst hv;exact .inr ⟨_,_,hg⟩
theorem qsr {W W' : World} {M N R n hh : Nat} {cv tv gv : Value} (h : Qo W M N (Qw n hh) cv tv gv) (hp : 0 < n * hh) (ho : ∀ k,k ≠ R → W'.heap[k]? = W.heap[k]?) (hR : R < N ∨ W.heap.size ≤ R) : Grd.Y5 W' N cv (Qw n hh).cs ∧ W'.ownsRow N 4 1 tv (Qw n hh).tabs.length ((Qw n hh).tabs.map Value.bool) := by
 have hne : ∀ g,N ≤ g → g < W.heap.size → W'.heap[g]? = W.heap[g]? := fun g h1 h2 => ho g (by omega)
 have hO : Grd.Y5 W N cv (Qw n hh).cs := by
  rcases h.c with ⟨he,-⟩ | h1
  ·have h1 := congrArg List.length he
   simp [Qw] at h1;omega
  ·exact h1
 have hO' : Grd.Y5 W' N cv (Qw n hh).cs := by
  obtain ⟨g,cap,rest,t,hv,h1,h2,h3,hg⟩ := hO;exact ⟨g,cap,rest,t,hv,h1,h2,h3,(hne g h1 (Qc hg)).trans hg⟩
 have hT : W'.ownsRow N 4 1 tv (Qw n hh).tabs.length ((Qw n hh).tabs.map Value.bool) := Ze h.t fun g hg => by
  obtain ⟨h1,A,f,hA⟩ := Qn h.t g hg;exact hne g h1 (Qc hA)
 exact ⟨hO',hT⟩
theorem qn8 (W : World) (o : Obj) (k : Nat) (h : k ≠ W.heap.size) : (W.alloc o).heap[k]? = W.heap[k]? := by
 rcases Nat.lt_or_ge k W.heap.size with h1 | h1
 ·exact Below.heap_alloc _ _ _ h1
 ·rw [Array.getElem?_eq_none h1,Array.getElem?_eq_none (by simp;omega)]
theorem qme {W W' : World} {N R : Nat} {v : Value} {cs : List C} {A : Array Value} {f : Nat × Nat} (h : Grd.Y5 W N v cs) (hR : W.heap[R]? = some (.cells A 32 f)) (ho : ∀ k,k ≠ R → W'.heap[k]? = W.heap[k]?) : Grd.Y5 W' N v cs := by
 obtain ⟨g,cap,rest,t,hv,h1,h2,h3,hg⟩ := h;refine ⟨g,cap,rest,t,hv,h1,h2,h3,(ho g fun e => ?_).trans hg⟩
 obtain ⟨t,ht⟩ := t;subst ht;rw [e,hR] at hg;injection hg with hg
 injection hg with _ hg _
 exact absurd hg (by decide)
theorem qyg {W W' : World} {R : Nat} {s : Scr} {cv tv : Value} {A : Array Value} {f : Nat × Nat} {N : Nat} (hO : Grd.Y5 W N cv s.cs) (hT : W.ownsRow N 4 1 tv s.tabs.length (s.tabs.map Value.bool)) (hR : W.heap[R]? = some (.cells A 32 f)) (ho : ∀ k,k ≠ R → W'.heap[k]? = W.heap[k]?) : SliceAt W' cv s.cs ∧ Vx W' tv s.tabs := by
 have h1 : Fg W' N cv s.cs := .inr (qme hO hR ho);refine ⟨h1.cells,qhk (Ze hT fun g hg => ho g fun e => ?_)⟩
 obtain ⟨-,B,f',hB⟩ := Qn hT g hg;rw [e,hR] at hB;injection hB with hB
 injection hB with _ hB _
 exact absurd hB (by decide)
section
attribute [local go_sem ↓] Jg
attribute [local go_sem] G7 Xx Xy
theorem qo2 (M : Nat) (w : World) (s : Scr) (rows : List (List C)) (n hh : Nat) (hw : s.w = n) (hh' : s.h = hh) (hs : Grd.Zk n hh = true) (hgl : s.gone.length ≤ 50) :
  Does 139 #[] M w s (qan s n hh) rows (Qe n (Qw n hh).cs hh) := by
 intro W p hb hS;have hN := hb.size;have HNW : Hid (∀ V,Calls qP 12 #[.int .i64 (n : Int),.int .i64 (hh : Int)] V (Made V V (Qw n hh) 0)) := fun V => qjc n hh V hs
 have HS : Hid (ShAt 110 W M w.heap.size p s rows) := hS;obtain ⟨ov,otv,ogv,orv,ogvs,ovs,hA⟩ := hS;obtain ⟨ga,gc,rfl⟩ := Qz hA.gone;have HA : Hid (ShA 110 W M w.heap.size p s rows ov otv (.slice ga s.gone.length gc) orv ogvs ovs) := hA;have SK : Hid (∀ V,Below W.heap.size W V → V.cell? ⟨p,0,none⟩ = some (.int .i64 (n : Int)) ∧ V.cell? ⟨p,1,none⟩ = some (.int .i64 (hh : Int))) := fun V h => by
  have hblk := Grd.carry HA.out.blk h;obtain ⟨⟨c0,c1,-⟩,-,-⟩ := Qr hblk;rw [hw] at c0;rw [hh'] at c1;exact ⟨c0,c1⟩
 have HHS : Hid (Grd.Zk n hh = true) := hs;have b0 : Below W.heap.size W W.drew := (qr _ _).drew;clear hA hb hs
 show Calls _ _ #[.pointer (some ⟨p,0,none⟩)] _ _
 go_enter Tryz.func139,Tryz.ntmps139;have bz : Below W.heap.size W (W.alloc (.cells zA 32)) := (qr _ _).alloc (qd _) _;have b0a : Below W.heap.size W (W.alloc (.cells zA 32)).drew := bz.drew;have hzb : (W.alloc (.cells zA 32)).drew.heap[W.heap.size]? = some (.cells zA 32 (0,0)) := qf W _;have hzs : (W.alloc (.cells zA 32)).drew.heap.size = W.heap.size + 1 := by simp [World.drew]
 unfold zA at bz b0a hzb hzs;have HHP : Hid (0 < n * hh) := by
  have hsz : 1 ≤ (n : Int) ∧ (n : Int) ≤ 120 ∧ 1 ≤ (hh : Int) ∧ (hh : Int) ≤ 60 := by simpa [Grd.Zk] using HHS.out
  exact Nat.mul_pos (by omega) (by omega)
 go_upto_region 0 with fail
 go_cut [2] from 3 to 28 (fun c wx => ∃ (B N' : Nat) (a1 a2 a3 : Option Addr) (n1 n2 n3 c1 c2' c3 : Nat),c = .pointer (some ⟨B,0,none⟩) ∧ W.heap.size ≤ B ∧ wx.heap[B]? = some (.cells (scT (Qw n hh) a1 n1 c1 a2 n2 c2' a3 n3 c3) 32 (0,0)) ∧ Grd.Y5 wx N' (.slice a1 n1 c1) (Qw n hh).cs ∧ wx.ownsRow N' 4 1 (.slice a2 n2 c2') (Qw n hh).tabs.length ((Qw n hh).tabs.map Value.bool) ∧ Below W.heap.size W wx)
 case first =>
  go_region_held3 (fun w' => w'.cell? ⟨p, 0, none⟩ = some (.int .i64 (n : Int)) ∧ w'.cell? ⟨p, 1, none⟩ = some (.int .i64 (hh : Int)))
   (first | exact K4.out | exact K3.out | exact SK.out _ q2 | exact SK.out _ b0a | exact SK.out _ bz | exact SK.out _ b0)
   (first | (go_at_call 12;refine (HNW.out _).mono ?_;rintro e V2 ⟨cv',tv',gv',rfl,hO,c2⟩;have q2 : Below W.heap.size W V2 := b0a.trans (c2.mono b0a.size);obtain ⟨a1,n1,c1,a2,n2,c2',a3,n3,c3,rfl,rfl,rfl⟩ := hO.shapes;have hbx := Grd.carry hzb c2;have sp := Zb hbx rfl;have K3 : Hid (V2.cell? _ = _ ∧ V2.cell? _ = _) := SK.out _ q2;have K4 : Hid _ := SK.out _ (qi q2 (qd _) (scT (Qw n hh) a1 n1 c1 a2 n2 c2' a3 n3 c3));have HF2 : Hid _ := And.intro (qj _ _ _ (scT (Qw n hh) a1 n1 c1 a2 n2 c2' a3 n3 c3) _ _ hbx) (And.intro (qsr (R := W.heap.size) hO HHP.out (fun k hk => qg V2 W.heap.size k (scT (Qw n hh) a1 n1 c1 a2 n2 c2' a3 n3 c3) hk) (.inl (by omega))) (qi q2 (qd _) (scT (Qw n hh) a1 n1 c1 a2 n2 c2' a3 n3 c3)));have HBL : Hid (W.heap.size ≤ W.heap.size) := qd _;clear hO c2 hbx) | (go_at_call 12;refine (HNW.out _).mono ?_;rintro e V2 ⟨cv',tv',gv',rfl,hO,c2⟩;have q2 : Below W.heap.size W V2 := b0.trans (c2.mono b0.size);obtain ⟨a1,n1,c1,a2,n2,c2',a3,n3,c3,rfl,rfl,rfl⟩ := hO.shapes;have sp := Zb (qf V2 (.cells zA 32)) rfl;have q3 := q2.alloc q2.size (.cells zA 32);have K3 : Hid _ := SK.out _ q3;have K4 : Hid _ := SK.out _ (qi q3 q2.size (scT (Qw n hh) a1 n1 c1 a2 n2 c2' a3 n3 c3));have HF2 : Hid _ := And.intro (qj _ _ _ (scT (Qw n hh) a1 n1 c1 a2 n2 c2' a3 n3 c3) _ _ (qf V2 (.cells zA 32))) (And.intro (qsr (R := V2.heap.size) hO HHP.out (fun k hk => (qg (V2.alloc (.cells zA 32)) V2.heap.size k (scT (Qw n hh) a1 n1 c1 a2 n2 c2' a3 n3 c3) hk).trans (qn8 V2 (.cells zA 32) k hk)) (.inr (qd _))) (qi q3 q2.size (scT (Qw n hh) a1 n1 c1 a2 n2 c2' a3 n3 c3)));have HBL : Hid (W.heap.size ≤ V2.heap.size) := q2.size;clear hO c2))
  all_goals go_wp2_with fail
  all_goals go_meet
  all_goals exact ⟨_,_,a1,a2,a3,n1,n2,n3,c1,c2',c3,rfl,HBL.out,HF2.out.1,HF2.out.2.1.1,HF2.out.2.1.2,HF2.out.2.2⟩
 case rest =>
  obtain ⟨B,N',a1,a2,a3,n1,n2,n3,c1,c2',c3,rfl,hBW,hYB,hOG0,hsv0,hY⟩ := hcut;have HY : Hid (Below W.heap.size W wc) := hY;have HYB : Hid (wc.heap[B]? = _) := hYB;have HOG : Hid _ := hOG0;have HSV : Hid _ := hsv0;clear hY hYB hOG0 hsv0 bz b0a b0 hzb hzs SK HNW;generalize wc = Y at *;have hpY := Grd.carry HA.out.blk HY.out;obtain ⟨-,⟨-,-,-,-,-,-,-,-,-,-,c21,-⟩,-⟩ := Qr hpY;obtain ⟨-,⟨-,-,-,-,-,-,-,-,-,-,d21⟩,dfz⟩ := Qi HYB.out;have f21 := dfz 21;have HZB : Hid ((Y.setCell ⟨B,21,none⟩ (.slice ga s.gone.length gc)).heap[B]? = some (.cells (scT (qan s n hh) a1 n1 c1 a2 n2 c2' ga s.gone.length gc) 32 (0,0))) := X9 HYB.out rfl;have hZ : Below W.heap.size W (Y.setCell ⟨B,21,none⟩ (.slice ga s.gone.length gc)) := HY.out.setCell hBW _;have hAZ := ShA.next HA.out hZ;have hoff : ∀ k,k ≠ B → (Y.setCell ⟨B,21,none⟩ (.slice ga s.gone.length gc)).heap[k]? = Y.heap[k]? := fun k hk => Zf hk
  have hOG := qme HOG.out HYB.out hoff;have hsv := qyg (s := Qw n hh) HOG.out HSV.out HYB.out hoff;have hgv : Gu (Y.setCell ⟨B,21,none⟩ (.slice ga s.gone.length gc)) w.heap.size (.slice ga s.gone.length gc) s.gone.length ogvs := Gu.of hAZ.gone;have hgv0 : Gu (Y.setCell ⟨B,21,none⟩ (.slice ga s.gone.length gc)) 0 (.slice ga s.gone.length gc) s.gone.length ogvs := by
   obtain ⟨h0,h | ⟨g,o,cap,A,hv,h1,h2⟩⟩ := hgv
   ·exact ⟨h0,.inl h⟩
   ·exact ⟨h0,.inr ⟨g,o,cap,A,hv,Nat.zero_le _,h2⟩⟩
  have hFit : Fits (qan s n hh) := by
   have hsz : 1 ≤ (n : Int) ∧ (n : Int) ≤ 120 ∧ 1 ≤ (hh : Int) ∧ (hh : Int) ≤ 60 := by simpa [Grd.Zk] using HHS.out
   refine ⟨by show (-9223372036854775808 : Int) ≤ 4;decide,by show (4 : Int) ≤ 9223372036854775807;decide,by show (-9223372036854775808 : Int) ≤ 4;decide,by show (4 : Int) ≤ 9223372036854775807;decide,by show (0 : Nat) ≤ 1048576;decide,?_,?_⟩
   ·show s.gone.length ≤ 1048576
    omega
   ·show (Yt n).length ≤ 1048576
    have : (Yt n).length = n := by simp [Yt]
    omega
  have HBC := qpv M w.heap.size p n hh s (qan s n hh) rows (.slice a1 n1 c1) (.slice a2 n2 c2') (.slice ga s.gone.length gc) ogvs _ ⟨_,_,_,_,_,_,hAZ⟩ (Nat.le_trans hN hZ.size) (qtd hOG) hgv0 hAZ.gin ⟨hsv.1,hsv.2,hgv.q14 hAZ.gin.list⟩ hFit rfl rfl (q1c n hh HHS.out);have HZW : Hid _ := hZ;clear hAZ hOG hsv hgv hgv0 hZ dfz hpY HYB HA HS HHS hoff hFit HOG HSV;go_upto_region 2 with fail
  generalize (Y.setCell ⟨B,21,none⟩ (.slice ga s.gone.length gc)) = Z at *;clear c21 d21 f21;go_wp2_with (refine ql rfl 32 (.tmp 2) rfl B rfl _ _ _ _ HZB.out Tryz.underlying32 rfl (by kernel_rfl) ?_)
  refine HBC.mono ?_;rintro e U ⟨rfl,hU,bU⟩;have HU : Hid _ := hU;have HBU : Hid (Below w.heap.size W U) := (HZW.out.mono hN).trans bU;clear hU bU HBC;go_wp2_with fail;go_end0;exact ⟨rfl,HU.out,HBU.out⟩
end
theorem qnk : Plain 231 := by
 intro args W
 kernel_rfl
theorem qoc : Plain 166 := by
 intro args W
 kernel_rfl
theorem qjq : Plain 139 := by
 intro args W
 kernel_rfl
theorem qfj (s' : Scr) (cs : List C) (h : cs = s'.cs) : ({ s' with cs := cs } : Scr) = s' := by
 subst h
 rfl
structure Nums (w : World) (v : Value) (xs : List Int) : Prop where
 i : Stl.qbs w v xs
 l : xs.length ≤ 140737488355328
 w : ∀ x ∈ xs,-9223372036854775808 ≤ x ∧ x ≤ 9223372036854775807
theorem Nums.next {w w' : World} {v : Value} {xs : List Int} (h : Nums w v xs) (hb : Below w.heap.size w w') : Nums w' v xs := ⟨h.i.below hb,h.l,h.w⟩
theorem qut {w0 w : World} {s : Scr} {cv tv gv : Value} {n hh : Nat} (h : Met w0 w s cv tv gv) (hR : Qg s n hh) (pl : Option Addr) (nl cl : Nat) (xs : List Int) (hT : Stl.Tab w) (hI : Nums w (.slice pl nl cl) xs) : Calls qP 216 #[.agg (scrA s cv tv gv), .slice pl nl cl] w (Made w0 w (qce s xs) 0) :=
 qgv s _ cv tv gv pl nl cl 0 w0 w h.v h.b.size fun W B hW hB => by
  have := qa8 (h.next hW) hR _ qnk #[.pointer (some ⟨B,0,none⟩)] (Qe n s.cs hh) _ (fun w1 hw1 => qum B _ w1 s _ pl nl cl xs (Qa hw1 hB) (qay (qay hT hW) hw1) (((hI.next hW).next hw1).i) hI.l (fun x hx => (hI.w x hx).2)) (Ya hR (qce s xs) rfl) rfl
  rwa [qfj (qce s xs) _ hR.flatten] at this
theorem qtg {w0 w : World} {s : Scr} {cv tv gv : Value} {n hh : Nat} (h : Met w0 w s cv tv gv) (hR : Qg s n hh) (t : ByteArray) (ht : t.size ≤ 1048576) : Calls qP 104 #[.agg (scrA s cv tv gv), .string t] w (Made w0 w (qch s t) 0) :=
 qf1 s _ cv tv gv t 0 w0 w h.v h.b.size fun W B hW hB => by
  have := qa8 (h.next hW) hR _ qoc #[.pointer (some ⟨B,0,none⟩)] (Qe n s.cs hh) _ (fun w1 hw1 => qup B _ w1 s _ t (Qa hw1 hB) (Grd.Tab.next (h.next hW).t hw1) ht) (Ya hR (qch s t) rfl) rfl
  rwa [qfj (qch s t) _ hR.flatten] at this
theorem q2d {s : Scr} {n hh : Nat} (hR : Qg s n hh) : Grd.Zk n hh = true := ((Grd.Zd n hh s.cs).1 hR.gz).1
theorem q0k (n hh : Nat) : (Qe n (Qw n hh).cs hh).flatten = (Qw n hh).cs := by
 rw [Ur,List.take_of_length_le];simp [Qw,Nat.mul_comm]
theorem qxc (n hh i : Nat) (hi : i < (Qe n (Qw n hh).cs hh).length) : ((Qe n (Qw n hh).cs hh).getD i []).length = n := by
 rw [Grd.Qt] at hi;have e2 : (Qe n (Qw n hh).cs hh).getD i [] = Grd.rowAt n (Qw n hh).cs i := by simp [Qe,qy,hi]
 rw [e2];exact Grd.qbf n hh _ i (by simp [Qw]) hi
theorem qpi {w0 w : World} {s : Scr} {cv tv gv : Value} {n hh : Nat} (h : Met w0 w s cv tv gv) (hR : Qg s n hh) : Calls qP 96 #[.agg (scrA s cv tv gv)] w (Made w0 w (qan s n hh) 0) :=
 qe6 s _ cv tv gv 0 w0 w h.v h.b.size fun W _ hW => by
  have := qa8 (h.next hW) hR _ qjq #[] (Qe n (Qw n hh).cs hh) _ (fun w1 _ => qo2 _ w1 s _ n hh hR.w hR.h (q2d hR) hR.gl) (F8 hR (qan s n hh) _ (Grd.Qt _ _ _) (qxc n hh) (by show s.gone.length ≤ 51;have := hR.gl;omega) (fun i hi => by have := hR.Ue i hi;show (s.gone.getD i []).length ≤ 1048576;omega)) rfl
  rwa [qfj (qan s n hh) _ (q0k n hh)] at this
end Put
namespace Put
open Grd (C Qf)
theorem qlb (m b : Int) (hm0 : 0 ≤ m) (hm1 : m ≤ 63) (hb0 : 0 ≤ b) (hb1 : b ≤ 63) (on : Bool) : 0 ≤ Yy m b on ∧ Yy m b on ≤ 63 := by
 have key : ∀ k : Fin 64,∀ j : Fin 64,(0 ≤ Yy (k.val : Int) (j.val : Int) true ∧ Yy (k.val : Int) (j.val : Int) true ≤ 63) ∧ (0 ≤ Yy (k.val : Int) (j.val : Int) false ∧ Yy (k.val : Int) (j.val : Int) false ≤ 63) := by decide +kernel
 have h := key ⟨m.toNat,by omega⟩ ⟨b.toNat,by omega⟩
 have e1 : ((m.toNat : Nat) : Int) = m := by omega
 have e2 : ((b.toNat : Nat) : Int) = b := by omega
 simp only [e1,e2] at h;cases on
 ·exact h.2
 ·exact h.1
theorem qei {s : Scr} {n hh : Nat} (h : Qg s n hh) : 0 ≤ s.modes ∧ s.modes ≤ 63 := by
 have := h.looks;simp only [Za,Bool.and_eq_true,decide_eq_true_eq] at this;exact this.2.2.1
theorem has4 (m : Int) (h : hasB m 4 = true) : bits .and .i64 m 4 ≠ 0 := by
 have h4 : bits .and .i64 m 4 = 4 := by simpa [hasB] using h
 rw [h4]
 decide
theorem set_right {s : Scr} {n hh : Nat} (h : Qg s n hh) (b : Int) (hb0 : 0 ≤ b) (hb1 : b ≤ 63) (on : Bool) : Qg (setS s b on) n hh := by
 have hm := qei h;have hr := qlb s.modes b hm.1 hm.2 hb0 hb1 on;have n1 := h.n1;have h1 := h.h1;have t0 := h.t0;have t1 := h.t1;have t2 := h.t2;have hk := h.looks;simp only [Za,Bool.and_eq_true,decide_eq_true_eq] at hk;have hlk : ∀ s' : Scr,(s'.sf,s'.sb,s'.sx) = (s.sf,s.sb,s.sx) → (s'.kf,s'.kb,s'.kbits) = (s.kf,s.kb,s.kbits) → s'.modes = Yy s.modes b on → s'.km = s.km → Za s' = true := fun s' e1 e2 e3 e4 => by
  simp only [Za,Bool.and_eq_true,decide_eq_true_eq];rw [e1,e2,e3,e4];exact ⟨hk.1,hk.2.1,hr,hk.2.2.2⟩
 unfold setS Ym Vn
 by_cases hz : bits .and .i64 b 2 = 0
 ·rw [if_pos hz]
  refine ⟨h.w,h.h,h.n1,h.n2,h.h1,h.h2,h.cl,h.gz,h.x0,h.x1,h.y0,h.y1,h.kx0,h.kx1,h.ky0,h.ky1,h.t0,h.t1,h.t2,h.t3,?_,hlk _ rfl rfl rfl rfl,h.tl,h.la,h.ti,h.gl,h.gr⟩;have hl := h.late;unfold Z6 at hl ⊢
  dsimp only
  cases hs : s.late with
  | false => rfl
  | true =>
   rw [hs] at hl
   cases hb : hasB (Yy s.modes b on) 4 with
   | false => rfl
   | true =>
    have := has4 _ hb;simp at hl;simp [this];omega
 ·rw [if_neg hz]
  unfold qad;refine ⟨h.w,h.h,h.n1,h.n2,h.h1,h.h2,h.cl,h.gz,by show (0 : Int) ≤ 0;omega,by show (0 : Int) < n;omega,?_,?_,h.kx0,h.kx1,h.ky0,h.ky1,h.t0,h.t1,h.t2,h.t3,by unfold Z6;rfl,hlk _ rfl rfl rfl rfl,h.tl,h.la,h.ti,h.gl,h.gr⟩
  ·dsimp only
   split
   ·exact t0
   ·omega
  ·dsimp only
   split
   ·omega
   ·omega
theorem qp0 {s : Scr} {n hh : Nat} (h : Qg s n hh) : Qg (qeo s) n hh := by
 have hm := qei h;have hk := h.looks;simp only [Za,Bool.and_eq_true,decide_eq_true_eq] at hk;have hr := qu8 s.modes s.km hm.1 hm.2 hk.2.2.2;have hlk : Za (qeo s) = true := by
  simp only [Za,Bool.and_eq_true,decide_eq_true_eq];refine ⟨hk.2.1,hk.2.1,?_,hk.2.2.2⟩
  show 0 ≤ bits .or .i64 (bits .andNot .i64 s.modes 6) s.km ∧ bits .or .i64 (bits .andNot .i64 s.modes 6) s.km ≤ 63
  rw [hr.1];exact hr.2
 exact ⟨h.w,h.h,h.n1,h.n2,h.h1,h.h2,h.cl,h.gz,h.kx0,h.kx1,h.ky0,h.ky1,h.kx0,h.kx1,h.ky0,h.ky1,h.t0,h.t1,h.t2,h.t3,by unfold Z6;rfl,hlk,h.tl,h.la,h.ti,h.gl,h.gr⟩
end Put
end Go.Proofs.YtooobiigijphkaaGreatDoor
