/- Parts of the proof, shortened by a program. -/
import Derived.Test.YtooobiigijphkaaGreatDoorPartE
import Derived.BigQuiet
import Derived.Test.YtooobiigijphkaaGreatDoorPartF
import Derived.Test.YtooobiigijphkaaGreatDoorPartD
import Derived.Test.YtooobiigijphkaaGreatDoorRows
import Derived.Deep.Slices
import Derived.WalkKit
import Derived.ProofKit
import Derived.OpenShut
import Derived.Deep.LoopGhost
import Derived.Deep.Draws
import Derived.Laws.Rows
import Derived.Laws.Tables
import Derived.Laws.CopyOwn
import Derived.Deep.RegionWith
import Derived.Lib.LaidU8
import Derived.Deep.Strs
import Derived.ChangeSlices
import Derived.SizedLaws
set_option maxHeartbeats 4000000
open Nat renaming le_refl → qd
open List renaming getD → qy
open Go renaming heap_alloc_new → qf, wpList_store_row → qh, below_setRow → qi, setRow_heap → qj, bodyPost_ret → qk, wpList_load_row → ql, results_cell_row → qn
open Go.RowKit.Below renaming refl → qr, heap_alloc → qs
open Go.Proofs.Tryz renaming prog → qP, underlying32 → qu
open Go.Exit renaming inBlock → qv, «then» → qw
namespace Go.Proofs.YtooobiigijphkaaGreatDoor
set_option linter.unusedVariables false
set_option linter.unusedSimpArgs false
set_option maxRecDepth 100000
open Go.ChangeShapes Go.WideShapes Go.ChangeAt Go.RowKit
namespace Grd
theorem qe4 (b1 o1 c1 b2 o2 c2 : Nat) (cs : List C) (w : World) (h1 : Qb w b1 o1 cs) (h2 : Qb w b2 o2 cs) (hn : cs.length ≤ 4398046511104) :
  Calls qP 44 #[.slice (some ⟨b1,o1,none⟩) cs.length c1,.slice (some ⟨b2,o2,none⟩) cs.length c2] w fun e w' => e = .returned (.bool true) ∧ Below w.heap.size w w' := by
 have H1 : Hid (Qb w b1 o1 cs) := h1;have H2 : Hid (Qb w b2 o2 cs) := h2;clear h1 h2;generalize hl : cs.length = L at *;have HL : Hid (cs.length = L) := hl;clear hl;have ne : ((L : Int) != (L : Int)) = false := by simp
 go_enter Tryz.func44,Tryz.ntmps44;go_wp2_with fail;go_loopg [13] L (fun g i wr => ∃ k : Nat,i = .int .i64 (k : Int) ∧ k ≤ L ∧ L - k ≤ g ∧ Below w.heap.size w wr)
 case atStart => exact ⟨0,rfl,by omega,by omega,qr _ _⟩
 case round =>
  obtain ⟨k,rfl,hk,hg,hb⟩ := hrel
  by_cases hlt : k < L
  ·have lt1 : ((k : Int) < (L : Int)) := by omega
   obtain ⟨p0,p1,p2,p3⟩ := H1.out.below hb k (by rw [HL.out];exact hlt)
   obtain ⟨q0,q1,q2,q3⟩ := H2.out.below hb k (by rw [HL.out];exact hlt)
   rcases hc : cs.getD k z0 with ⟨r,f,bk,x⟩
   rw [hc] at p0 p1 p2 p3 q0 q1 q2 q3
   dsimp only at p0 p1 p2 p3 q0 q1 q2 q3
   clear hc;have nq := qxl r f bk x;go_wp2_with fail;go_region;go_wp2_with fail;go_roundg (L - (k + 1))
   case measure => omega
   case rel => exact ⟨k + 1,rfl,by omega,by omega,hb.drew⟩
  ·have lt1 : ¬ ((k : Int) < (L : Int)) := by omega
   go_wp2_with fail;go_ret;exact ⟨rfl,hb⟩
theorem Uw (v1 v2 : Value) (cs : List C) (w : World) (h1 : SliceAt w v1 cs) (h2 : SliceAt w v2 cs) (hn : cs.length ≤ 4398046511104) :
  Calls qP 44 #[v1,v2] w fun e w' => e = .returned (.bool true) ∧ Below w.heap.size w w' := by
 rcases h1 with ⟨rfl,a1,c1,rfl⟩ | ⟨h0,b1,o1,c1,rfl,_,_,hC1⟩
 ·rcases h2 with ⟨_, a2, c2, rfl⟩ | ⟨h0, _⟩
  ·exact qmy a1 a2 c1 c2 w
  ·exact absurd rfl h0
 ·rcases h2 with ⟨rfl, _⟩ | ⟨_, b2, o2, c2, rfl, _, _, hC2⟩
  ·exact absurd rfl h0
  ·exact qe4 b1 o1 c1 b2 o2 c2 cs w hC1 hC2 hn
theorem qji (a h : Int) (v1 v2 : Value) (cs : List C) (w : World) (h1 : SliceAt w v1 cs) (h2 : SliceAt w v2 cs) (hn : cs.length ≤ 4398046511104) :
  Calls qP 21 #[.agg #[.int .i64 a,.int .i64 h,v1],.agg #[.int .i64 a,.int .i64 h,v2]] w fun e w' => e = .returned (.bool true) ∧ Below w.heap.size w w' := by
 have H1 : Hid (SliceAt w v1 cs) := h1;have H2 : Hid (SliceAt w v2 cs) := h2;clear h1 h2;have kk : Below w.heap.size w ((w.alloc (.cells #[.int .i64 a,.int .i64 h,v1] 24)).alloc (.cells #[.int .i64 a,.int .i64 h,v2] 24)) := ((qr _ _).alloc (qd _) _).alloc (by simp) _
 have aa : (a == a) = true := by simp
 have ee : (h == h) = true := by simp
 go_enter Tryz.func21,Tryz.ntmps21;go_wp2_with (first | (go_at_call 44;refine (Uw v1 v2 cs _ (H1.out.below kk) (H2.out.below kk) hn).mono ?_;rintro e W1 ⟨rfl,b1⟩));go_ret;exact ⟨rfl,kk.trans (b1.mono kk.size)⟩
theorem qmk (a : Option Addr) (c : Nat) (w : World) :
  Calls qP 111 #[.slice a 0 c] w fun e w' => ∃ a' c',e = .returned (.slice a' 0 c') ∧ Below w.heap.size w w' := by
 obtain ⟨i0,hi,hzz⟩ := Option.map_eq_some_iff.1 U4;simp only [Prod.mk.injEq] at hzz;obtain ⟨hz0,hz1,hz2⟩ := hzz;have qn : ∀ (w : World) (a : Option Addr) (n c n' c' : Nat),(binOp .eql 22 (.slice a n c) (.slice none n' c')).run qP w = .ok (.bool a.isNone) w := fun w a n c n' c' => Lib.run_eql_slice_nil w _ _ a n c n' c' Jc
 cases a with
 | none =>
  go_enter Tryz.func111,Tryz.ntmps111;go_wp2_with fail;go_ret;exact ⟨_,_,rfl,qr _ _⟩
 | some ad =>
  go_enter Tryz.func111,Tryz.ntmps111;go_wp2_with (at_builtin;refine wpList_append_own _ rfl _ _ 22 rfl w.heap.size 56 i0 (.agg #[.int .i32 0,.int .i64 0,.int .i64 0,.int .i64 0]) 4 32 Jc hi hz0 hz1 hz2 rfl (by decide) _ _ _ rfl (World.ownsRow_made w #[] 0 (qd _) (Nat.zero_le _) rfl) ad 0 c [] rfl rfl (by simp) (by simp) (by unfold maxLen;omega) (by omega) (by simp) ?_)
  intro v' w1 hown hgrow hnil;have hsh : ∃ a' c',v' = .slice a' 0 c' := by
   rcases hown.2 with h | ⟨g,cp,_,h,_⟩
   ·exact ⟨_,_,h.1⟩
   ·exact ⟨_,_,h⟩
  obtain ⟨a',c',rfl⟩ := hsh;go_wp2_with fail;go_ret;exact ⟨a',c',rfl,((qr _ w).alloc (qd _) _).grown hgrow (by simp) (by intro k hk;simp [Value.ownBlock] at hk;omega)⟩
end Grd
namespace Put
open Grd (C SliceAt Qb Qf z0 Q0 flat Qe Js)
theorem Kept.store {W : World} {N p i : Nat} {v : Value} {A : Array Value} {t : TypeId} (hp : W.heap[p]? = some (.cells A t (0,0))) (ht : t ≠ 56) (hN : N ≤ p) : Kept N W (W.setCell ⟨p,i,none⟩ v) := fun k _ hS => Zf fun e => by
 subst e
 rcases hS with hS | ⟨B,f,hS⟩
 ·omega
 ·rw [hp] at hS
  injection hS with hS
  injection hS with _ hS _
  exact ht hS
theorem qb5 {w : World} {base : Nat} {e : TypeId} {g n c k : Nat} {xs : List Value} {v : Value} (h : w.ownsRow base e 1 (.slice (some ⟨g,0,none⟩) n c) n xs) : (w.setCell ⟨g,k,none⟩ v).ownsRow base e 1 (.slice (some ⟨g,0,none⟩) n c) n (xs.set k v) := by
 obtain ⟨h0,⟨h,-⟩ | ⟨g',cap,cur,hv,hg,hh,hc,hm,hs,htk⟩⟩ := h
 ·injection h with h
  cases h
 ·injection hv with hv1 _ hv3
  injection hv1 with hv1
  injection hv1 with hv1
  subst hv1 hv3;refine ⟨by rw [List.length_set];exact h0,.inr ⟨g,c,cur.setIfInBounds k v,rfl,hg,heap_setCell_same w g k cur e v hh,hc,hm,by simpa using hs,?_⟩⟩
  rw [Array.toList_setIfInBounds,List.take_set,htk]
theorem Fh {W : World} {N g : Nat} {v : Value} {row : List C} (h : Js W g v row) : X3 W N v row := by
 by_cases hr : row = []
 ·obtain ⟨cap, rest, hv, -⟩ := h
  subst hr;exact .inl ⟨rfl,_,_,hv⟩
 ·have hC := h.cells
  obtain ⟨cap,rest,hv,h1,h2,h3⟩ := h;exact .inr ⟨hr,g,0,cap,hv,h1,h2,hC,.inr ⟨_,_,h3⟩⟩
theorem qk9 (v : Value) (N : Nat) (row : List C) (w : World) (h : X3 w N v row) (hbig : row.length ≤ 1048576) :
  Calls qP 111 #[v] w fun e w' => ∃ a c,e = .returned (.slice a row.length c) ∧ (∀ N',X3 w' N' (.slice a row.length c) row) ∧ Below w.heap.size w w' := by
 rcases h with ⟨rfl,a,c,rfl⟩ | ⟨hr,b,o,c,rfl,h1,h2,h3,h4⟩
 ·refine (Grd.qmk a c w).mono ?_
  rintro e W ⟨a',c',rfl,hb⟩;exact ⟨a',c',rfl,fun _ => .inl ⟨rfl,a',c',rfl⟩,hb⟩
 ·refine (Grd.quh b o c row w h3 (by omega)).mono ?_
  rintro e W ⟨v',g,rfl,hg,hR,hb⟩;obtain ⟨a',c',hv⟩ := (Fh (N := N) hR).shape;subst hv;exact ⟨a',c',rfl,fun _ => Fh hR,hb⟩
def qvx (W : World) (k : Nat) (gs : List Value) (rows : List (List C)) : Prop := ∀ i,i < k → i < rows.length → X3 W 0 (gs.getD i Q0) (rows.getD i [])
theorem J4 {α : Type} (l : List α) (k : Nat) (x d : α) (h : k < l.length) : (l.set k x).getD k d = x := by simp [qy,h]
theorem getD_set_ne {α : Type} (l : List α) (k i : Nat) (x d : α) (h : i ≠ k) : (l.set k x).getD i d = l.getD i d := by
 simp [qy,Ne.symm h]
theorem RowsIn.set {W : World} {N : Nat} {vs : List Value} {rows : List (List C)} (h : RowsIn W N vs rows) (k : Nat) (v : Value) (row : List C) (hr : X3 W N v row) : RowsIn W N (vs.set k v) (rows.set k row) := by
 refine ⟨by rw [List.length_set,List.length_set];exact h.1,fun i hi => ?_⟩
 rw [List.length_set] at hi
 by_cases e : i = k
 ·subst e
  rw [J4 _ _ _ _ (by rw [h.1];exact hi),J4 _ _ _ _ hi]
  exact hr
 ·rw [getD_set_ne _ _ _ _ _ e, getD_set_ne _ _ _ _ _ e]
  exact h.2 i hi
theorem qyz {α : Type} (l : List α) (k : Nat) (d : α) (h : k < l.length) : l.set k (l.getD k d) = l := by
 apply List.ext_getElem (by simp)
 intro i h1 h2;rw [List.getElem_set];split
 ·rename_i e
  subst e;simp [qy,h]
 ·rfl
theorem qvc {W : World} {N : Nat} {v : Value} {rows : List (List C)} {vs : List Value} (h : W.ownsRow N 22 1 v rows.length vs) (hr : qai W vs rows) : Vw W v rows := by
 obtain ⟨h0,⟨rfl,hn⟩ | ⟨g,cap,cur,hv,hg,hh,hc,hm,hs,htk⟩⟩ := h
 ·exact .inl ⟨List.eq_nil_of_length_eq_zero hn,none,0,rfl⟩
 ·refine .inr ⟨g, 0, cap, hv, hc, by unfold maxLen at hm; omega, fun j hj => ⟨vs.getD j Q0, ?_, hr.2 j hj⟩⟩
  have e : cur[j]? = vs[j]? := by
   rw [← htk,← Array.getElem?_toList,List.getElem?_take_of_lt (by omega)]
  have hl := hr.1;have e2 : vs[j]? = some (vs.getD j Q0) := by simp [qy,List.getElem?_eq_getElem (show j < vs.length by omega)]
  unfold World.cell?;rw [Nat.zero_add];simp only [hh];rw [e,e2]
  rfl
theorem qhk {W : World} {N : Nat} {v : Value} {l : List Bool} (h : W.ownsRow N 4 1 v l.length (l.map Value.bool)) : Vx W v l := by
 obtain ⟨h0,⟨rfl,hn⟩ | ⟨g,cap,cur,hv,hg,hh,hc,hm,hs,htk⟩⟩ := h
 ·exact .inl ⟨List.eq_nil_of_length_eq_zero hn,none,0,rfl⟩
 ·refine .inr ⟨g, 0, cap, hv, hc, by unfold maxLen at hm; omega, fun j hj => ?_⟩
  have e : cur[j]? = (l.map Value.bool)[j]? := by
   rw [← htk,← Array.getElem?_toList,List.getElem?_take_of_lt (by omega)]
  have e2 : (l.map Value.bool)[j]? = some (.bool (l.getD j false)) := by simp [qy,List.getElem?_eq_getElem hj]
  unfold World.cell?;rw [Nat.zero_add];simp only [hh];rw [e,e2]
  rfl
def Fg (W : World) (N : Nat) (v : Value) (cs : List C) : Prop := (cs = [] ∧ ∃ a c,v = .slice a 0 c) ∨ Grd.Y5 W N v cs
theorem Fg.of {W : World} {N : Nat} {v : Value} {cs : List C} (h : W.ownsRow N 56 4 v cs.length (flat cs)) : Fg W N v cs := by
 by_cases hc : cs = []
 ·subst hc
  obtain ⟨a,c,rfl⟩ := Qz h;exact .inl ⟨rfl,a,c,rfl⟩
 ·refine .inr (Grd.qqf h ?_)
  intro e;subst e;obtain ⟨-,⟨-,h2⟩ | ⟨g,cap,cur,hv,-⟩⟩ := h
  ·exact hc (List.eq_nil_of_length_eq_zero h2)
  ·injection hv with hv
   cases hv
theorem Fg.cells {W : World} {N : Nat} {v : Value} {cs : List C} (h : Fg W N v cs) : SliceAt W v cs := by
 rcases h with h | ⟨g,cap,rest,t,hv,hg,h1,h2,h3⟩
 ·exact .inl h
 ·by_cases hc : cs = []
  ·subst hc
   exact .inl ⟨rfl,_,_,hv⟩
  ·exact .inr ⟨hc,g,0,cap,hv,h1,h2,Grd.Gb h3⟩
theorem Fg.shape {W : World} {N : Nat} {v : Value} {cs : List C} (h : Fg W N v cs) : ∃ a c,v = .slice a cs.length c := h.cells.shape
theorem Fg.mono {W : World} {N N' : Nat} {v : Value} {cs : List C} (h : Fg W N v cs) (hN : N' ≤ N) : Fg W N' v cs := by
 rcases h with h | ⟨g,cap,rest,t,hv,hg,h1⟩
 ·exact .inl h
 ·exact .inr ⟨g,cap,rest,t,hv,by omega,h1⟩
theorem Fg.kept {W W' : World} {N : Nat} {v : Value} {cs : List C} (h : Fg W N v cs) (hk : ∀ (g : Nat) (A : Array Value) (f : Nat × Nat),W.heap[g]? = some (.cells A 56 f) → W'.heap[g]? = W.heap[g]?) : Fg W' N v cs := by
 rcases h with h | ⟨g,cap,rest,⟨t,rfl⟩,hv,hg,h1,h2,h3⟩
 ·exact .inl h
 ·exact .inr ⟨g,cap,rest,⟨_,rfl⟩,hv,hg,h1,h2,(hk g _ _ h3).trans h3⟩
structure Qo (W : World) (M N : Nat) (s : Scr) (cv tv gv : Value) : Prop where
 c : Fg W N cv s.cs
 t : W.ownsRow N 4 1 tv s.tabs.length (s.tabs.map Value.bool)
 g : ∃ gvs,W.ownsRow N 22 1 gv s.gone.length gvs ∧ RowsIn W M gvs s.gone
theorem Qo.scr {W : World} {M N : Nat} {s : Scr} {cv tv gv : Value} (h : Qo W M N s cv tv gv) : Zh W s cv tv gv := by
 obtain ⟨gvs,h1,h2⟩ := h.g;exact ⟨h.c.cells,qhk h.t,qvc h1 h2.list⟩
theorem Qo.off {W W' : World} {M N R : Nat} {s : Scr} {cv tv gv : Value} {A : Array Value} {t : TypeId} (h : Qo W M N s cv tv gv) (hR : W.heap[R]? = some (.cells A t (0,0))) (ht : X6 t) (hM : M ≤ R) (hk : ∀ k,k ≠ R → W'.heap[k]? = W.heap[k]?) : Qo W' M N s cv tv gv := by
 have hoff : ∀ {e : TypeId} {z : Nat} {u : Value} {n : Nat} {xs : List Value},t ≠ e → W.ownsRow N e z u n xs → W'.ownsRow N e z u n xs := fun hte hw => Ze hw fun q hq => hk q fun eq => by
  obtain ⟨-,B,f,hB⟩ := Qn hw q hq;rw [eq,hR] at hB;injection hB with hB
  injection hB with _ hB _
  exact hte hB
 have hK : Kept M W W' := fun k _ hS => hk k fun e => by
  subst e
  rcases hS with hS | ⟨B,f,hS⟩
  ·omega
  ·rw [hR] at hS
   injection hS with hS
   injection hS with _ hS _
   exact ht.2.2 hS
 obtain ⟨gvs,h1,h2⟩ := h.g;refine ⟨h.c.kept fun g A' f hg => hk g fun e => ?_,hoff ht.1 h.t,gvs,hoff ht.2.1 h1,h2.keep hK⟩
 rw [e,hR] at hg;injection hg with hg
 injection hg with _ hg _
 exact ht.2.2 hg
theorem Qo.mono {W : World} {M N N' : Nat} {s : Scr} {cv tv gv : Value} (h : Qo W M N s cv tv gv) (hN : N' ≤ N) : Qo W M N' s cv tv gv := by
 obtain ⟨gvs,h1,h2⟩ := h.g;exact ⟨h.c.mono hN,Grd.Q4 h.t hN,gvs,Grd.Q4 h1 hN,h2⟩
theorem Qo.next {W W' : World} {M N : Nat} {s : Scr} {cv tv gv : Value} (h : Qo W M N s cv tv gv) (hb : Below W.heap.size W W') : Qo W' M N s cv tv gv := by
 have hk : ∀ {e : TypeId} {z : Nat} {v : Value} {n : Nat} {xs : List Value},W.ownsRow N e z v n xs → W'.ownsRow N e z v n xs := fun hw => Ze hw fun g hg => by
  obtain ⟨-,A,f,hA⟩ := Qn hw g hg;exact hb.block g (Qc hA)
 obtain ⟨gvs,h1,h2⟩ := h.g;exact ⟨h.c.kept fun g A f hg => hb.block g (Qc hg),hk h.t,gvs,hk h1,h2.keep (Kept.of_below hb)⟩
theorem Ql : X6 32 := by unfold X6;decide
end Put
namespace Put
open Grd (C SliceAt Qb Qf z0 Q0 flat Qe)
def zScr : Scr := ⟨0,0,[],0,0,false,0,0,0,0,0,0,[],0,0,0,0,0,0,0,⟨#[]⟩,[]⟩
theorem qsz (s : Scr) (cv tv gv : Value) : (scrA s cv tv gv).toList.length = 22 := rfl
theorem qyl {W : World} {p : Nat} {t : TypeId} {s : Scr} {cv tv gv rv : Value} (h : W.heap[p]? = some (.cells (shA s cv tv gv rv) t (0,0))) : W.rangeAt p 0 (scrA s cv tv gv).toList := fun j v hj => by
 have e : (shA s cv tv gv rv).toList = (scrA s cv tv gv).toList ++ [rv] := rfl;have hlt := (List.getElem?_eq_some_iff.1 hj).1;rw [qsz] at hlt;have : (shA s cv tv gv rv)[j]? = some v := by
  rw [← Array.getElem?_toList,e,List.getElem?_append_left (by rw [qsz];exact hlt)]
  exact hj
 simp [World.cell?,h,this]
theorem Qm (s : Scr) (a1 a2 a3 : Option Addr) (n1 n2 n3 c1 c2 c3 : Nat) : (scT s a1 n1 c1 a2 n2 c2 a3 n3 c3).all (·.oneCell') = true := by
 simp [scrA,Value.oneCell']
theorem K8 {W : World} {R : Nat} {A : Array Value} {t : TypeId} (h : W.heap[R]? = some (.cells A t (0,0))) (i : Nat) : W.frozen? ⟨R,i,none⟩ = false := by simp [World.frozen?,h]
theorem Yd {W : World} {p i k j : Nat} {v : Value} (h : k ≠ p) : (W.setCell ⟨p,i,none⟩ v).cell? ⟨k,j,none⟩ = W.cell? ⟨k,j,none⟩ := by
 have := Zf (W := W) (i := i) (v := v) h;simp only [World.cell?,this]
theorem qtv {W : World} {N p i : Nat} {e : TypeId} {v u : Value} {n z : Nat} {xs : List Value} {A : Array Value} {t : TypeId} (h : W.ownsRow N e z u n xs) (hp : W.heap[p]? = some (.cells A t (0, 0))) (ht : t ≠ e) : (W.setCell ⟨p, i, none⟩ v).ownsRow N e z u n xs :=
 Ze h fun g hg => Zf fun eq => by
  obtain ⟨-,B,f,hB⟩ := Qn h g hg;rw [eq,hp] at hB;injection hB with hB
  injection hB with _ hB _
  exact ht hB
theorem Gc {W : World} {N : Nat} {v : Value} {n : Nat} {vs : List Value} (h : W.ownsRow N 22 1 v n vs) (hn : 0 < n) : ∃ g c,v = .slice (some ⟨g,0,none⟩) n c ∧ N ≤ g ∧ n ≤ c ∧ c ≤ 9223372036854775807 ∧ vs.length = n ∧ (∀ j,j < n → W.cell? ⟨g,j,none⟩ = some (vs.getD j Q0)) ∧ ∃ A,W.heap[g]? = some (.cells A 22 (0,0)) := by
 obtain ⟨h0,⟨rfl,rfl⟩ | ⟨g,cap,cur,hv,hg,hh,hc,hm,hs,htk⟩⟩ := h
 ·omega
 ·refine ⟨g, cap, hv, hg, hc, by unfold maxLen at hm; omega, by omega, fun j hj => ?_, _, hh⟩
  have e : cur[j]? = vs[j]? := by
   rw [← htk,← Array.getElem?_toList,List.getElem?_take_of_lt (by omega)]
  have hl : vs.length = n := by omega
  have e2 : vs[j]? = some (vs.getD j Q0) := by simp [qy,List.getElem?_eq_getElem (show j < vs.length by omega)]
  unfold World.cell?;simp only [hh];rw [e,e2]
  rfl
theorem qt9 (W : World) (M N p : Nat) (s : Scr) (rows : List (List C)) (h : ShAt 110 W M N p s rows) (hr1 : 0 < rows.length) (hrl : rows.length ≤ 60) (hne : ∀ i, i < rows.length → rows.getD i [] ≠ []) (cs : List C) (hcs : rows.flatten = cs) (hl : cs.length ≤ 1048576) (hgl : s.gone.length ≤ 1048576) (hg : ∀ i, i < s.gone.length → (s.gone.getD i []).length ≤ 1048576) :
  Calls qP 62 #[.pointer (some ⟨p,0,none⟩)] W fun e W' => ∃ cv' tv' gv',e = .returned (.agg (scrA { s with cs := cs } cv' tv' gv')) ∧ Qo W' 0 N { s with cs := cs } cv' tv' gv' ∧ Below N W W' := by
 obtain ⟨cv,tv,gv,rv,gvs,vs,hS⟩ := h;obtain ⟨ca,cn,cc,rfl⟩ := hS.cvs;obtain ⟨ta,tc,rfl⟩ := Qz hS.tabs;obtain ⟨ga,gc,rfl⟩ := Qz hS.gone;obtain ⟨g,rc,rfl,hgN,hrc1,hrc2,hvl,hrcell,hrb⟩ := Gc hS.rws hr1;have kb : Below W.heap.size W ((W.alloc (.cells zA 32)).alloc (.cells zA 32)) := ((qr _ _).alloc (qd _) _).alloc (by simp) _
 have HS : Hid (ShA 110 W M N p s rows _ _ _ _ gvs vs) := hS;have hrg := qyl hS.blk;have x2 := qf W (.cells zA 32);have x3 : ((W.alloc (.cells zA 32)).alloc (.cells zA 32)).heap[W.heap.size + 1]? = some (.cells zA 32 (0,0)) := heap_alloc2_new W _ _;have HRG : Hid _ := hrg;have HX3 : Hid _ := x3;have HKB : Hid _ := kb;clear hrg x3 kb hS;have HX1 : Hid ((((W.alloc (.cells zA 32)).alloc (.cells zA 32)).setRow (W.heap.size + 1) (scT s ca cn cc ta s.tabs.length tc ga s.gone.length gc)).heap[W.heap.size + 1]? = some (.cells (scT s ca cn cc ta s.tabs.length tc ga s.gone.length gc) 32 (0,0))) := qj _ _ _ _ _ _ HX3.out;have HX0 : Hid ((((W.alloc (.cells zA 32)).alloc (.cells zA 32)).setRow (W.heap.size + 1) (scT s ca cn cc ta s.tabs.length tc ga s.gone.length gc)).heap[W.heap.size]? = some (.cells (scT zScr none 0 0 none 0 0 none 0 0) 32 (0,0))) := by
  unfold Hid;rw [setRow_other _ _ _ _ (by omega),qs _ _ _ (by simp),qf]
  rfl
 have HB0 : Hid (Below W.heap.size W (((W.alloc (.cells zA 32)).alloc (.cells zA 32)).setRow (W.heap.size + 1) (scT s ca cn cc ta s.tabs.length tc ga s.gone.length gc))) := qi HKB.out (by omega) _
 go_enter Tryz.func62,Tryz.ntmps62
 go_upto_region 2 with (first
  | (refine wpList_load_mid rfl 32 (.tmp 8) rfl p 0 rfl (scT s ca cn cc ta s.tabs.length tc ga s.gone.length gc).toList _ (fun j v hj => Qa ((qr _ _).alloc (qd _) _) (HRG.out j v hj)) qu rfl (by kernel_rfl) ?_)
  | (refine qh rfl 32 (.tmp 3) _ rfl (W.heap.size + 1) (scT s ca cn cc ta s.tabs.length tc ga s.gone.length gc) rfl rfl _ _ HX3.out (by kernel_rfl) rfl (Qm _ _ _ _ _ _ _ _ _ _) ?_))
 clear HX3 HKB x2;generalize (((W.alloc (.cells zA 32)).alloc (.cells zA 32)).setRow (W.heap.size + 1) (scT s ca cn cc ta s.tabs.length tc ga s.gone.length gc)) = X at *;have hgl1 : W.heap.size + 1 < X.heap.size := Qc HX1.out;have hS0 := HS.out;have hlo := hS0.lo;have hml := hS0.ml;have hpl := Qc hS0.blk;have c22 := (Qr ((HB0.out.block p hpl).trans hS0.blk)).2.1.2.2.2.2.2.2.2.2.2.2.2;have hcv : ∀ j,j < rows.length → ∃ b' o' c',X.cell? ⟨g,0 + j,none⟩ = some (.slice (some ⟨b',o',none⟩) (rows.getD j []).length c') ∧ Qb X b' o' (rows.getD j []) := fun j hj => by
  have h1 := Qa HB0.out (hrcell j hj)
  rcases hS0.rin.2 j hj with ⟨he,-⟩ | ⟨-,b',o',c',hv,-,-,hC,-⟩
  ·exact absurd he (hne j hj)
  ·rw [hv] at h1
   rw [Nat.zero_add];exact ⟨b',o',c',h1,hC.below HB0.out⟩
 have HCV := qb2 g 0 rc rows X hcv cs hcs hl (by omega)
 clear hcv hcs hrcell;go_wp2_with fail;refine HCV.mono ?_;rintro e X4 ⟨v4,rfl,ho4,b4⟩;obtain ⟨va,vc,rfl⟩ := Qz ho4;have hX1' := Grd.carry HX1.out b4;have f2 := (Qi hX1').2.2 2;have c2 := (Qi hX1').1.2.2.1;have c21 := (Qi hX1').2.1.2.2.2.2.2.2.2.2.2.2;have HY1 : Hid ((X4.setCell ⟨W.heap.size + 1,2,none⟩ (.slice va cs.length vc)).heap[W.heap.size + 1]? = some (.cells (scrA { s with cs := cs } (.slice va cs.length vc) (.slice ta s.tabs.length tc) (.slice ga s.gone.length gc)) 32 (0,0))) := X9 hX1' rfl
 have hNX : N ≤ X.heap.size := by have := HB0.out.size;omega
 have HY0 : Hid ((X4.setCell ⟨W.heap.size + 1,2,none⟩ (.slice va cs.length vc)).heap[W.heap.size]? = _) := (Zf (by omega)).trans (Grd.carry HX0.out b4)
 have b5 : Below W.heap.size W (X4.setCell ⟨W.heap.size + 1,2,none⟩ (.slice va cs.length vc)) := (HB0.out.trans (b4.mono HB0.out.size)).setCell (Nat.le_succ _) _;have HBN : Hid (Below N W (X4.setCell ⟨W.heap.size + 1,2,none⟩ (.slice va cs.length vc))) := b5.mono (by omega)
 have HSH : Hid (ShA 110 (X4.setCell ⟨W.heap.size + 1,2,none⟩ (.slice va cs.length vc)) M N p s rows _ _ _ _ gvs vs) := hS0.next b5
 have HC4 : Hid ((X4.setCell ⟨W.heap.size + 1, 2, none⟩ (.slice va cs.length vc)).ownsRow N 56 4 (.slice va cs.length vc) cs.length (flat cs)) := Grd.Q4 (Ze ho4 fun k hk => Zf fun e => by
  obtain ⟨-,A,f,hA⟩ := Qn ho4 k hk;rw [e,hX1'] at hA;injection hA with hA
  injection hA with _ hA _
  exact absurd hA (by decide)) hNX
 clear ho4 b4 hX1' b5 hS0 HCV;go_wp2_with fail;go_loopg [20] s.gone.length (fun q i wr => ∃ (k : Nat) (gs : List Value),k ≤ s.gone.length ∧ s.gone.length - k ≤ q ∧ i = .int .i64 (k : Int) ∧ Below N W wr ∧ wr.heap[W.heap.size + 1]? = some (.cells (scrA { s with cs := cs } (.slice va cs.length vc) (.slice ta s.tabs.length tc) (.slice ga s.gone.length gc)) 32 (0,0)) ∧ wr.heap[W.heap.size]? = some (.cells (scT zScr none 0 0 none 0 0 none 0 0) 32 (0,0)) ∧ wr.ownsRow N 4 1 (.slice ta s.tabs.length tc) s.tabs.length (s.tabs.map Value.bool) ∧ wr.ownsRow N 56 4 (.slice va cs.length vc) cs.length (flat cs) ∧ wr.ownsRow N 22 1 (.slice ga s.gone.length gc) s.gone.length gs ∧ RowsIn wr M gs s.gone ∧ qvx wr k gs s.gone)
 case atStart => exact ⟨0,gvs,by omega,by omega,rfl,HBN.out,HY1.out,HY0.out,HSH.out.tabs,HC4.out,HSH.out.gone,HSH.out.gin,fun i hi => absurd hi (Nat.not_lt_zero _)⟩
 case round =>
  clear HY0 HY1 HBN HSH HC4 HX0 HX1 HB0 c2 c21 c22 f2;obtain ⟨k,gs,hk,hq,rfl,hb,hy1,hy0,hot,hoc,hog,hri,hdn⟩ := hrel;have HDN : Hid (qvx wr k gs s.gone) := hdn;clear hdn;have HB : Hid (Below N W wr) := hb;have HY1 : Hid _ := hy1;have HY0 : Hid _ := hy0;have HT : Hid (wr.ownsRow N 4 1 _ s.tabs.length (s.tabs.map Value.bool)) := hot;have HC : Hid (wr.ownsRow N 56 4 _ cs.length (flat cs)) := hoc;have HG : Hid (wr.ownsRow N 22 1 _ s.gone.length gs) := hog;have HRI : Hid (RowsIn wr M gs s.gone) := hri;have c21 := (Qi hy1).2.1.2.2.2.2.2.2.2.2.2.2
  by_cases hlt : k < s.gone.length
  ·have lt1 : ((k : Int) < (s.gone.length : Int)) := by omega
   obtain ⟨gb,gc',hv,hgb,-,hgc,-,hgcell,A,hgA⟩ := Gc hog (by omega)
   injection hv with hv1 _ hv3
   subst hv1 hv3;have d1 := hgcell k hlt;have hrow := hri.2 k hlt;have hgk := hg k hlt;obtain ⟨ra,rc2,hsh⟩ := hrow.shape;rw [hsh] at d1;have HGB : Hid (wr.heap[gb]? = some (.cells A 22 (0,0))) := hgA;have HWR : Hid (X3 wr.drew M (.slice ra (s.gone.getD k []).length rc2) (s.gone.getD k [])) := by unfold Hid;rw [← hsh];exact hrow
   obtain ⟨row,hrowk⟩ : ∃ row,row = s.gone.getD k [] := ⟨_,rfl⟩;have HK : Hid (row = s.gone.getD k []) := hrowk;rw [← hrowk] at d1 hgk HWR;have hne3 : gb ≠ W.heap.size + 1 := by
    intro e;rw [e,hy1] at hgA;injection hgA with hgA
    injection hgA with _ hgA _
    exact absurd hgA (by decide)
   clear hb hy1 hy0 hot hoc hog hri hrow hgA hgcell hsh hrowk;go_upto_region 6 with fail
   have e0 : wr.drew.cell? ⟨W.heap.size + 1,21,none⟩ = some (.slice (some ⟨gb,0,none⟩) s.gone.length gc) := c21
   go_region_held3 (fun w' => w'.cell? ⟨W.heap.size + 1, 21, none⟩ = some (.slice (some ⟨gb, 0, none⟩) s.gone.length gc))
    (first | exact e2 | exact e1 | exact e0)
    (first | (go_at_call 111;refine (qk9 _ M row wr.drew HWR.out (by omega)).mono ?_;rintro e V1 ⟨na,nc,rfl,hrn,b1⟩;have e1 := Qa b1 e0;have g1 := Grd.carry (show wr.drew.heap[gb]? = _ from HGB.out) b1;have d2 := Qa b1 (show wr.drew.cell? ⟨gb,k,none⟩ = _ from d1);have f1 : ∀ i,V1.frozen? ⟨gb,i,none⟩ = false := (fun i => K8 g1 i);have e2 : (V1.setCell ⟨gb,k,none⟩ (.slice na row.length nc)).cell? ⟨W.heap.size + 1,21,none⟩ = some (.slice (some ⟨gb,0,none⟩) s.gone.length gc) := (Yd (Ne.symm hne3)).trans e1;have HRN : Hid _ := hrn;have HB1 : Hid _ := b1;clear hrn b1))
   have bw : Below wr.heap.size wr V1 := ((qr wr.heap.size wr).drew).trans HB1.out;have g1 := Grd.carry HGB.out bw;have HK2 : Hid (Kept M V1 (V1.setCell ⟨gb,k,none⟩ (.slice na row.length nc))) := Kept.store g1 (by decide) (Nat.le_trans hml hgb)
   have HN1 : Hid _ := (Zf (i := k) (v := .slice na row.length nc) (Ne.symm hne3)).trans (Grd.carry HY1.out bw)
   have HN0 : Hid _ := (Zf (p := gb) (k := W.heap.size) (i := k) (v := .slice na row.length nc) (by
    intro e;have h1 := HGB.out;have h2 := HY0.out;rw [← e,h2] at h1;injection h1 with h1
    injection h1 with _ h1 _
    exact absurd h1 (by decide))).trans (Grd.carry HY0.out bw)
   have HT1 : Hid _ := Z5 (i := k) (v := .slice na row.length nc) (Jv HT.out bw) g1 (by decide)
   have HC1 : Hid _ := qtv (i := k) (v := .slice na row.length nc) (Ze HC.out fun q hq => by
    obtain ⟨-,B,f,hB⟩ := Qn HC.out q hq
    exact bw.block q (Qc hB)) g1 (by decide)
   have HG1 : Hid _ := qb5 (k := k) (v := .slice na row.length nc) (Jv HG.out bw);have HR1 : Hid (RowsIn (V1.setCell ⟨gb,k,none⟩ (.slice na row.length nc)) M (gs.set k (.slice na row.length nc)) s.gone) := by
    have h1 := (HRI.out.keep (Kept.of_below bw)).set k (.slice na row.length nc) row (HRN.out M);rw [HK.out,qyz _ _ _ hlt,← HK.out] at h1;exact h1.keep HK2.out
   have HK0 : Hid (Kept 0 V1 (V1.setCell ⟨gb,k,none⟩ (.slice na row.length nc))) := Kept.store g1 (by decide) (Nat.zero_le _)
   have HD1 : Hid (qvx (V1.setCell ⟨gb,k,none⟩ (.slice na row.length nc)) (k + 1) (gs.set k (.slice na row.length nc)) s.gone) := fun i hi hl => by
    by_cases e : i = k
    ·subst e
     rw [J4 _ _ _ _ (by rw [HRI.out.1];exact hl),← HK.out]
     exact (HRN.out 0).keep HK0.out
    ·rw [getD_set_ne _ _ _ _ _ e]
     exact ((HDN.out i (by omega) hl).keep (Kept.of_below bw)).keep HK0.out
   have HBB : Hid (Below N W (V1.setCell ⟨gb,k,none⟩ (.slice na row.length nc))) := (HB.out.trans (bw.mono (by have := HB.out.size;omega))).setCell hgb _
   clear bw g1 e0 e1 e2 d1 d2 f1;go_wp2_with fail;go_roundg (s.gone.length - (k + 1))
   case measure => omega
   case rel => exact ⟨k + 1,_,by omega,by omega,by go_num,HBB.out,HN1.out,HN0.out,HT1.out,HC1.out,HG1.out,HR1.out,HD1.out⟩
  ·have lt1 : ¬ ((k : Int) < (s.gone.length : Int)) := by omega
   clear hb hy1 hy0 hot hoc hog hri c21
   go_wp2_with (first
    | (refine ql rfl 32 (.tmp 3) rfl (W.heap.size + 1) rfl _ _ _ _ HY1.out qu rfl (by kernel_rfl) ?_)
    | (refine qh rfl 32 (.tmp 2) _ rfl W.heap.size (scrA { s with cs := cs } (.slice va cs.length vc) (.slice ta s.tabs.length tc) (.slice ga s.gone.length gc)) rfl rfl _ _ HY0.out (by kernel_rfl) rfl (Qm _ _ _ _ _ _ _ _ _ _) ?_))
   (try simp only [qv,qw])
   refine qk (v := .agg (scrA { s with cs := cs } (.slice va cs.length vc) (.slice ta s.tabs.length tc) (.slice ga s.gone.length gc))) ?_ rfl ⟨_,_,_,rfl,?_,?_⟩
   ·exact qn rfl _ _ W.heap.size _ _ _ _ rfl (qj _ _ _ _ _ _ HY0.out) qu rfl (by kernel_rfl)
   ·exact Qo.off (s := { s with cs := cs }) ⟨Fg.of HC.out,HT.out,gs,HG.out,HRI.out.1,fun i (hi : i < s.gone.length) => HDN.out i (by omega) hi⟩ HY0.out Ql (by omega) fun k hk => setRow_other _ _ _ _ hk
   ·exact qi HB.out (by omega) _
def Plain (df : FuncId) : Prop := ∀ (args : Array Value) (W : World),(callFunc df args).run qP W = .ok (.enter df args) W
def Does (df : FuncId) (caps : Array Value) (M : Nat) (w : World) (s s' : Scr) (rows rows' : List (List C)) : Prop :=
 ∀ W p,Below w.heap.size w W → ShAt 110 W M w.heap.size p s rows → Calls qP df (#[.pointer (some ⟨p,0,none⟩)] ++ caps) W fun e W' => e = .returned (.tuple #[]) ∧ ShAt 110 W' M w.heap.size p s' rows' ∧ Below w.heap.size W W'
structure V6 (s : Scr) (rows : List (List C)) : Prop where
 r1 : 0 < rows.length
 r2 : rows.length ≤ 60
 ne : ∀ i,i < rows.length → rows.getD i [] ≠ []
 cl : rows.flatten.length ≤ 1048576
 gl : s.gone.length ≤ 1048576
 gr : ∀ i,i < s.gone.length → (s.gone.getD i []).length ≤ 1048576
theorem Jl (n hh : Nat) (s s' : Scr) (rows' : List (List C)) (cv tv gv : Value) (df : FuncId) (hdf : Plain df) (caps : Array Value) (w0 w : World) (hV : Zh w0 s cv tv gv) (hb0 : Below w0.heap.size w0 w) (hF : Fits s) (hw : s.w = n) (hh' : s.h = hh) (hz : Qf n hh s.cs = 0)
  (hD : ∀ w1,Below w.heap.size w w1 → Does df caps w0.heap.size w1 s s' (Qe n s.cs hh) rows') (hO : V6 s' rows') (cs' : List C) (hcs : rows'.flatten = cs') :
  Calls qP 35 #[.agg (scrA s cv tv gv),.int .i64 0,.func (.func df) #[] caps] w fun e W' => ∃ cv' tv' gv',e = .returned (.tuple #[.agg (scrA { s' with cs := cs' } cv' tv' gv'),.int .i64 0]) ∧ Qo W' 0 w.heap.size { s' with cs := cs' } cv' tv' gv' ∧ Below w.heap.size w W' := by
 obtain ⟨ca,cc,rfl⟩ := hV.c.shape;obtain ⟨ta,tc,rfl⟩ := hV.t.slice;obtain ⟨ga,gc,rfl⟩ := hV.g.slice;have hx0 : ((w.alloc (.cells (scS s ca cc ta tc ga gc) 32)).alloc (.cells zA 32)).heap[w.heap.size]? = some (.cells (scS s ca cc ta tc ga gc) 32 (0,0)) := (qs _ _ _ (by simp)).trans (qf _ _)
 have hx1 : ((w.alloc (.cells (scS s ca cc ta tc ga gc) 32)).alloc (.cells zA 32)).heap[w.heap.size + 1]? = some (.cells zA 32 (0,0)) := heap_alloc2_new w _ _;have hsz : ((w.alloc (.cells (scS s ca cc ta tc ga gc) 32)).alloc (.cells zA 32)).heap.size = w.heap.size + 2 := by simp
 have hkb : Below w.heap.size w ((w.alloc (.cells (scS s ca cc ta tc ga gc) 32)).alloc (.cells zA 32)) := ((qr _ _).alloc (qd _) _).alloc (by simp) _
 have HX0 : Hid _ := hx0;have HX1 : Hid _ := hx1;have HSZ : Hid _ := hsz;have HKB : Hid _ := hkb;have HO : Hid (V6 s' rows') := hO;have HD : Hid (∀ w1,Below w.heap.size w w1 → Does df caps w0.heap.size w1 s s' (Qe n s.cs hh) rows') := hD;have HOP := qx6 n hh s _ _ _ w0 ((w.alloc (.cells (scS s ca cc ta tc ga gc) 32)).alloc (.cells zA 32)) hV (hb0.trans (hkb.mono hb0.size)) hF hw hh' hz;have hlc : cs'.length ≤ 1048576 := by rw [← hcs];exact hO.cl
 have HCS : Hid (rows'.flatten = cs') := hcs;unfold Plain at hdf;have hM0 := hb0.size;clear hx0 hx1 hsz hkb hV hF hw hh' hz hO hD hcs hb0;go_enter Tryz.func35,Tryz.ntmps35;go_wp2_with (refine ql rfl 32 (.tmp 3) rfl w.heap.size rfl _ _ _ _ HX0.out qu rfl (by kernel_rfl) ?_)
 refine HOP.mono ?_;rintro e W1 ⟨p,rfl,hS1,b1⟩;have HB1 : Hid (Below w.heap.size w W1) := HKB.out.trans (b1.mono HKB.out.size);have HDO := HD.out _ HKB.out W1 p b1 hS1;have HX2 : Hid _ := Grd.carry HX1.out b1;clear HOP b1 hS1;go_wp2_with fail;refine HDO.mono ?_;rintro e W2 ⟨rfl,hS2,b2⟩;have hle : w.heap.size ≤ ((w.alloc (.cells (scS s ca cc ta tc ga gc) 32)).alloc (.cells zA 32)).heap.size := by rw [HSZ.out];omega
 have HB2 : Hid (Below w.heap.size w W2) := HB1.out.trans (b2.mono hle);have HX3 : Hid (W2.heap[w.heap.size + 1]? = _) := (b2.block (w.heap.size + 1) (by rw [HSZ.out];omega)).trans HX2.out
 have HWH := qt9 W2 _ _ p s' rows' hS2 HO.out.r1 HO.out.r2 HO.out.ne cs' HCS.out hlc HO.out.gl HO.out.gr;have hlt : w.heap.size + 1 < ((w.alloc (.cells (scS s ca cc ta tc ga gc) 32)).alloc (.cells zA 32)).heap.size := by rw [HSZ.out];omega
 generalize ((w.alloc (.cells (scS s ca cc ta tc ga gc) 32)).alloc (.cells zA 32)) = X at *;clear HDO b2 hS2;go_wp2_with fail;refine HWH.mono ?_;rintro e W3 ⟨cv',tv',gv',rfl,hV3,b3⟩;obtain ⟨ca',cc',rfl⟩ := hV3.c.shape;obtain ⟨ta',tc',rfl⟩ := Qz hV3.t;obtain ⟨ga',gc',rfl⟩ := hV3.scr.g.slice;have HX4 : Hid (W3.heap[w.heap.size + 1]? = _) := (b3.block (w.heap.size + 1) hlt).trans HX3.out;have HV3 : Hid (Qo W3 0 _ { s' with cs := cs' } _ _ _) := hV3
 have HB3 : Hid (Below w.heap.size w W3) := HB2.out.trans (b3.mono hle);clear HWH hV3 b3;go_wp2_with (refine qh rfl 32 (.tmp 6) (.tmp 19) rfl (w.heap.size + 1) (scrA { s' with cs := cs' } (.slice ca' cs'.length cc') (.slice ta' s'.tabs.length tc') (.slice ga' s'.gone.length gc')) rfl rfl _ _ HX4.out (by kernel_rfl) rfl (Qm _ _ _ _ _ _ _ _ _ _) ?_)
 (try simp only [qv,qw])
 refine qk (v := .tuple #[.agg (scrA { s' with cs := cs' } (.slice ca' cs'.length cc') (.slice ta' s'.tabs.length tc') (.slice ga' s'.gone.length gc')),.int .i64 0]) ?_ rfl ⟨_,_,_,rfl,?_,qi HB3.out (by omega) _⟩
 ·exact Grd.Qd rfl _ _ (w.heap.size + 1) _ _ _ _ rfl (qj _ _ _ _ _ _ HX4.out) qu rfl (by kernel_rfl) _ rfl
 ·exact (Qo.off HV3.out HX4.out Ql (by omega) fun k hk => setRow_other _ _ _ _ hk).mono hle
def Made (_w0 w : World) (s' : Scr) (er : Int) (e : Ending) (W' : World) : Prop := ∃ cv' tv' gv',e = .returned (.tuple #[.agg (scrA s' cv' tv' gv'),.int .i64 er]) ∧ Qo W' 0 w.heap.size s' cv' tv' gv' ∧ Below w.heap.size w W'
theorem Qo.shapes {W : World} {M N : Nat} {s : Scr} {cv tv gv : Value} (h : Qo W M N s cv tv gv) : ∃ a1 n1 c1 a2 n2 c2 a3 n3 c3,cv = .slice a1 n1 c1 ∧ tv = .slice a2 n2 c2 ∧ gv = .slice a3 n3 c3 := by
 obtain ⟨a1,c1,h1⟩ := h.c.shape;obtain ⟨a2,c2,h2⟩ := Qz h.t;obtain ⟨gvs,h3,-⟩ := h.g;obtain ⟨a3,c3,h3⟩ := Qz h3;exact ⟨a1,_,c1,a2,_,c2,a3,_,c3,h1,h2,h3⟩
def Zc (W : World) (v : Value) : Prop := ∃ R cs t,v = .pointer (some ⟨R,0,none⟩) ∧ W.heap[R]? = some (.cells cs t (0,0)) ∧ cs.size = 22
theorem Zb {W : World} {R : Nat} {t : TypeId} {A : Array Value} (h : W.heap[R]? = some (.cells A t (0,0))) (hA : A.size = 22) : Zc W (.pointer (some ⟨R,0,none⟩)) := ⟨_,_,_,rfl,h,hA⟩
def qyo (v : Value) : Prop := ∃ s a1 n1 c1 a2 n2 c2 a3 n3 c3,v = .agg (scT s a1 n1 c1 a2 n2 c2 a3 n3 c3)
theorem G7 (s : Scr) (a1 a2 a3 : Option Addr) (n1 n2 n3 c1 c2 c3 : Nat) : qyo (.agg (scT s a1 n1 c1 a2 n2 c2 a3 n3 c3)) := ⟨s,a1,n1,c1,a2,n2,c2,a3,n3,c3,rfl⟩
def qwh (v : Value) : Nat := match v with
 | .pointer (some a) => a.block
 | _ => 0
theorem Xx (a : Addr) : qwh (.pointer (some a)) = a.block := rfl
def qod (v : Value) : Array Value := match v with
 | .agg cs => cs
 | _ => #[]
theorem Xy (cs : Array Value) : qod (.agg cs) = cs := rfl
theorem Jg (a : Act) (dst : Option Tmp) (x y : Operand) (ty : TypeId) (pos : String) (after : Array Edge) (guard : Option (Nat × Bool)) (W : World) (h : Zc W (a.eval x)) (hy : qyo (a.eval y)) :
  (execOp a.eval { dst,op := .store 32 x y,type := ty,pos,after,guard }).run qP W = .ok .skip (W.setRow (qwh (a.eval x)) (qod (a.eval y))) := by
 obtain ⟨R,cs,t,h0,h1,h2⟩ := h;obtain ⟨s,a1,n1,c1,a2,n2,c2,a3,n3,c3,hy⟩ := hy;have hi : (Tryz.prog.info? 32).map (·.size) = some 22 := by kernel_rfl
 have hr := run_storeVar_row (P := qP) W R t 32 cs (scT s a1 n1 c1 a2 n2 c2 a3 n3 c3) h1 hi h2 (Qm _ _ _ _ _ _ _ _ _ _);unfold execOp;simp only [h0,hy,Instr.storeAt,Instr.sureAddr,Sem.run_bind,Sem.run_pure,Result.andThen_ok,hr,Xx,Xy]
end Put
namespace Put
open Grd (C SliceAt Qb Qf z0 Q0 flat Qe)
open Sty (Q5)
open Txt (wd)
structure Qg (s : Scr) (n hh : Nat) : Prop where
 w : s.w = n
 h : s.h = hh
 n1 : 1 ≤ n
 n2 : n ≤ 120
 h1 : 1 ≤ hh
 h2 : hh ≤ 60
 cl : s.cs.length = n * hh
 gz : Qf n hh s.cs = 0
 x0 : 0 ≤ s.x
 x1 : s.x < n
 y0 : 0 ≤ s.y
 y1 : s.y < hh
 kx0 : 0 ≤ s.kx
 kx1 : s.kx < n
 ky0 : 0 ≤ s.ky
 ky1 : s.ky < hh
 t0 : 0 ≤ s.top
 t1 : s.top ≤ s.bot
 t2 : s.bot < hh
 t3 : s.top < s.bot ∨ hh = 1
 late : Z6 s = false
 looks : Za s = true
 tl : s.tabs.length = n
 la : s.last = 0 ∨ wd s.last ≠ 0
 ti : J6 s.title = true
 gl : s.gone.length ≤ 50
 gr : ∀ row,row ∈ s.gone → Qf row.length 1 row = 0
theorem qx0 (s : Scr) (h : Qj s = 0) : ∃ n hh : Nat,Qg s n hh := by
 unfold Qj at h;split at h
 ·omega
 rename_i hz
 have hz : Qf s.w s.h s.cs = 0 := by simpa using hz
 split at h
 ·omega
 rename_i hp
 have hp : Vb s = true := by simpa using hp
 split at h
 ·omega
 rename_i hl
 have hl : Z6 s = false := by simpa using hl
 split at h
 ·omega
 rename_i hk
 have hk : Za s = true := by simpa using hk
 split at h
 ·omega
 rename_i hr
 have hr : Xo s = true := by simpa using hr
 obtain ⟨w1,w2,w3,w4⟩ := Vk hz;have ew : s.w = (s.w.toNat : Int) := by omega
 have eh : s.h = (s.h.toNat : Int) := by omega
 rw [ew,eh] at hz;have hzz := (Grd.Zd _ _ _).1 hz;simp only [Vb,hasC,Kz,Bool.and_eq_true,Bool.or_eq_true,decide_eq_true_eq] at hp;simp only [Xo,Bool.and_eq_true,Bool.or_eq_true,Bool.not_eq_true',decide_eq_true_eq,decide_eq_false_iff_not] at hr;unfold X8 at h;split at h
 ·omega
 rename_i h50
 cases hg : Xu s.gone with
 | true => rw [hg] at h;simp at h
 | false =>
  refine ⟨s.w.toNat,s.h.toNat,ew,eh,by omega,by omega,by omega,by omega,hzz.2.1,hz,by omega,by omega,by omega,by omega,by omega,by omega,by omega,by omega,by omega,by omega,by omega,by omega,hl,hk,by omega,hr.2.1,hr.2.2,by omega,?_⟩
  intro row hrow;unfold Xu at hg;rw [List.any_eq_false] at hg;have := hg row hrow;simpa using this
theorem Ur (n : Nat) (cs : List C) : ∀ hh, (Qe n cs hh).flatten = cs.take (hh * n)
 | 0 => by simp [Qe]
 | hh + 1 => by
  rw [Grd.qrn,List.flatten_append,Ur n cs hh,Grd.qx3];simp
theorem Qg.flatten {s : Scr} {n hh : Nat} (h : Qg s n hh) : (Qe n s.cs hh).flatten = s.cs := by
 rw [Ur,Nat.mul_comm,← h.cl,List.take_length]
theorem Qg.Ue {s : Scr} {n hh : Nat} (h : Qg s n hh) (i : Nat) (hi : i < s.gone.length) : (s.gone.getD i []).length ≤ 120 := by
 have hm : s.gone.getD i [] ∈ s.gone := by
  have e : s.gone.getD i [] = s.gone[i] := by simp [qy,hi]
  rw [e];exact List.getElem_mem hi
 have := (Vk (h.gr _ hm)).2.1;omega
theorem Qg.rows {s s' : Scr} {n hh : Nat} (h : Qg s n hh) (hg : s'.gone = s.gone) : V6 s' (Qe n s.cs hh) := by
 have h1 := h.h1;have h2 := h.h2;have n1 := h.n1;have n2 := h.n2;refine ⟨by rw [Grd.Qt];omega,by rw [Grd.Qt];omega,fun i hi => ?_,?_,by rw [hg];have := h.gl;omega,fun i hi => ?_⟩
 ·rw [Grd.Qt] at hi
  have e2 : (Qe n s.cs hh).getD i [] = Grd.rowAt n s.cs i := by simp [Qe,qy,hi]
  have hle : i * n + n ≤ n * hh := by
   have : (i + 1) * n ≤ hh * n := Nat.mul_le_mul_right n hi;rw [Nat.mul_comm n hh];rw [Nat.add_mul] at this;omega
  have hlen : (Grd.rowAt n s.cs i).length = n := by
   unfold Grd.rowAt;rw [List.length_take,List.length_drop,h.cl];omega
  rw [e2];intro e;rw [e] at hlen;simp at hlen;omega
 ·rw [h.flatten, h.cl]
  have := Nat.mul_le_mul n2 h2;omega
 ·rw [hg] at hi ⊢
  have := h.Ue i hi;omega
end Put
namespace Put
open Grd (C SliceAt Qb CIn i64_in i32_in)
section
variable {H : Type} {enc : TypeId × Value → H} {W : World}
theorem qwu (d : DataW H) : 1 ≤ Rows.uptoBulk d := by
 cases d with
 | lit l => cases l <;> simp [Rows.uptoBulk]
 | _ => simp [Rows.uptoBulk]
theorem qlm {d : DataW H} : ∀ {l : List (DataW H)}, d ∈ l → Rows.uptoBulk d ≤ Rows.uptoBulkAll l
 | x :: l,h => by
  rcases List.mem_cons.1 h with rfl | h
  ·simp only [Rows.uptoBulkAll];omega
  ·have := qlm h
   simp only [Rows.uptoBulkAll];omega
theorem qcn : ∀ (l : List (DataW H)), l.length ≤ Rows.uptoBulkAll l
 | [] => by simp
 | x :: l => by
  have := qcn l;have := qwu x;simp only [Rows.uptoBulkAll,List.length_cons];omega
theorem trod_struct4 {P : Program} {base : Nat} {spare : Nat → Bool} {held : Bool} {t : TypeId} {f0 f1 f2 f3 : Field} {fuel : Nat} {cs : List Value} {x : DataW H × List MemPlace} (ht : P.underlying t = some (.struct #[f0, f1, f2, f3])) (h : DataW.trod enc P W base spare held fuel t cs = some x) :
  ∃ y0 y1 y2 y3 n, x.1 = .agg [y0.1, y1.1, y2.1, y3.1] ∧ cs.length = P.cellsOf t ∧ DataW.trod enc P W base spare held n f0.type ((cs.drop f0.offset).take (P.cellsOf f0.type)) = some y0 ∧
   DataW.trod enc P W base spare held n f1.type ((cs.drop f1.offset).take (P.cellsOf f1.type)) = some y1 ∧
   DataW.trod enc P W base spare held n f2.type ((cs.drop f2.offset).take (P.cellsOf f2.type)) = some y2 ∧
   DataW.trod enc P W base spare held n f3.type ((cs.drop f3.offset).take (P.cellsOf f3.type)) = some y3 := by
 obtain ⟨xs,n,_,rfl,hl,hlen,hf⟩ := DataW.trod_struct ht h
 match xs,hlen with
 | [y0,y1,y2,y3],_ => exact ⟨y0,y1,y2,y3,n,by simp,hl,by simpa using hf 0 f0 rfl,by simpa using hf 1 f1 rfl,by simpa using hf 2 f2 rfl,by simpa using hf 3 f3 rfl⟩
theorem qh6 {P : Program} {base : Nat} {spare : Nat → Bool} {held : Bool} {t : TypeId} {f0 f1 f2 f3 f4 f5 f6 f7 f8 f9 f10 f11 f12 : Field} {fuel : Nat} {cs : List Value} {x : DataW H × List MemPlace} (ht : P.underlying t = some (.struct #[f0, f1, f2, f3, f4, f5, f6, f7, f8, f9, f10, f11, f12])) (h : DataW.trod enc P W base spare held fuel t cs = some x) :
  ∃ y0 y1 y2 y3 y4 y5 y6 y7 y8 y9 y10 y11 y12 n, x.1 = .agg [y0.1, y1.1, y2.1, y3.1, y4.1, y5.1, y6.1, y7.1, y8.1, y9.1, y10.1, y11.1, y12.1] ∧ cs.length = P.cellsOf t ∧ DataW.trod enc P W base spare held n f0.type ((cs.drop f0.offset).take (P.cellsOf f0.type)) = some y0 ∧
   DataW.trod enc P W base spare held n f1.type ((cs.drop f1.offset).take (P.cellsOf f1.type)) = some y1 ∧
   DataW.trod enc P W base spare held n f2.type ((cs.drop f2.offset).take (P.cellsOf f2.type)) = some y2 ∧
   DataW.trod enc P W base spare held n f3.type ((cs.drop f3.offset).take (P.cellsOf f3.type)) = some y3 ∧
   DataW.trod enc P W base spare held n f4.type ((cs.drop f4.offset).take (P.cellsOf f4.type)) = some y4 ∧
   DataW.trod enc P W base spare held n f5.type ((cs.drop f5.offset).take (P.cellsOf f5.type)) = some y5 ∧
   DataW.trod enc P W base spare held n f6.type ((cs.drop f6.offset).take (P.cellsOf f6.type)) = some y6 ∧
   DataW.trod enc P W base spare held n f7.type ((cs.drop f7.offset).take (P.cellsOf f7.type)) = some y7 ∧
   DataW.trod enc P W base spare held n f8.type ((cs.drop f8.offset).take (P.cellsOf f8.type)) = some y8 ∧
   DataW.trod enc P W base spare held n f9.type ((cs.drop f9.offset).take (P.cellsOf f9.type)) = some y9 ∧
   DataW.trod enc P W base spare held n f10.type ((cs.drop f10.offset).take (P.cellsOf f10.type)) = some y10 ∧
   DataW.trod enc P W base spare held n f11.type ((cs.drop f11.offset).take (P.cellsOf f11.type)) = some y11 ∧
   DataW.trod enc P W base spare held n f12.type ((cs.drop f12.offset).take (P.cellsOf f12.type)) = some y12 := by
 obtain ⟨xs,n,_,rfl,hl,hlen,hf⟩ := DataW.trod_struct ht h
 match xs,hlen with
 | [y0,y1,y2,y3,y4,y5,y6,y7,y8,y9,y10,y11,y12],_ => exact ⟨y0,y1,y2,y3,y4,y5,y6,y7,y8,y9,y10,y11,y12,n,by simp,hl,by simpa using hf 0 f0 rfl,by simpa using hf 1 f1 rfl,by simpa using hf 2 f2 rfl,by simpa using hf 3 f3 rfl,by simpa using hf 4 f4 rfl,by simpa using hf 5 f5 rfl,by simpa using hf 6 f6 rfl,by simpa using hf 7 f7 rfl,by simpa using hf 8 f8 rfl,by simpa using hf 9 f9 rfl,by simpa using hf 10 f10 rfl,by simpa using hf 11 f11 rfl,by simpa using hf 12 f12 rfl⟩
theorem qgo {cs : List C} {d : DataW H} (h : cs = [] ∨ ∃ elems sp,d = .slice elems sp ∧ cs.length = elems.length) : cs.length ≤ Rows.uptoBulk d := by
 rcases h with rfl | ⟨el,sp,rfl,hl⟩
 ·simp
 ·have := qcn el
  rw [hl];simp only [Rows.uptoBulk];omega
theorem open_bools {fuel : Nat} {v : Value} {y : DataW H × List MemPlace} (h : DataW.trod enc qP W 0 (fun _ => true) true fuel 27 [v] = some y) :
  ∃ l : List Bool,Vx W v l ∧ l.length ≤ Rows.uptoBulk y.1 := by
 rcases Deep.open_slice Gd h with ⟨hcs,_⟩ | ⟨a,len,cap,m,n,D,Pl,hcs,_,hl,hm,hmm,rfl,hx⟩
 ·simp at hcs
  subst hcs;exact ⟨[],.inl ⟨rfl,_,_,rfl⟩,by simp⟩
 ·simp at hcs
  subst hcs;simp only [if_true] at hmm;rw [show Tryz.prog.cellsOf 4 = 1 by kernel_rfl] at hx
  obtain ⟨f, hf⟩ := Deep.choose_lt (α := Bool) (p := fun i c => W.cell? ((a.add (i * 1)).add 0) = some (.bool c)) (n := len) (fun i hi => by
   obtain ⟨cs',h1,h2⟩ := hx i (by omega)
   obtain ⟨_,_,hc⟩ := World.cells?_some h1;obtain ⟨c,rfl,_⟩ := DataW.trod_bool Tryz.underlying4 h2
   exact ⟨c,hc 0 (by omega)⟩)
  have hlen : ((List.range len).map f).length = len := by simp
  refine ⟨(List.range len).map f,?_,?_⟩
  ·by_cases h0 : len = 0
   ·subst h0
    exact .inl ⟨by simp,_,_,rfl⟩
   ·obtain ⟨b, off, spot⟩ := a
    have hspot : spot = none := by
     have := hf 0 (by omega)
     simpa [Addr.add] using World.cell?_spot this
    subst hspot;refine .inr ⟨b,off,cap,by rw [hlen],by rw [hlen];omega,by unfold maxLen at hm;omega,fun j hj => ?_⟩
    rw [hlen] at hj;have hg : ((List.range len).map f).getD j false = f j := by simp [qy,hj]
    rw [hg];have hc := hf j hj;rw [add_plain,add_plain] at hc;simpa using hc
  ·rw [hlen]
   have h := qcn ((List.range len).map D);rw [List.length_map,List.length_range] at h;simp only [Rows.uptoBulk];omega
theorem qug {fuel : Nat} {v : Value} {y : DataW H × List MemPlace} (h : DataW.trod enc qP W 0 (fun _ => true) true fuel 30 [v] = some y) :
  ∃ l : List (List C),Vw W v l ∧ l.length ≤ Rows.uptoBulk y.1 ∧ ∀ row ∈ l,row.length ≤ Rows.uptoBulk y.1 := by
 rcases Deep.open_slice Jh h with ⟨hcs,_⟩ | ⟨a,len,cap,m,n,D,Pl,hcs,_,hl,hm,hmm,rfl,hx⟩
 ·simp at hcs
  subst hcs;exact ⟨[],.inl ⟨rfl,_,_,rfl⟩,by simp,by simp⟩
 ·simp at hcs
  subst hcs;simp only [if_true] at hmm;rw [show Tryz.prog.cellsOf 22 = 1 by kernel_rfl] at hx
  obtain ⟨f, hf⟩ := Deep.choose_lt (α := List C) (p := fun i row => ∃ rv, W.cell? ((a.add (i * 1)).add 0) = some rv ∧ SliceAt W rv row ∧ row.length ≤ Rows.uptoBulk (D i)) (n := len) (fun i hi => by
   obtain ⟨cs',h1,h2⟩ := hx i (by omega)
   obtain ⟨hlen1,_,hc⟩ := World.cells?_some h1
   match cs',hlen1 with
   | [rv],_ =>
    obtain ⟨row,hs,-,hb⟩ := Grd.qfw h2
    exact ⟨row,rv,hc 0 (by omega),hs,qgo hb⟩)
  have hlen : ((List.range len).map f).length = len := by simp
  refine ⟨(List.range len).map f,?_,?_,?_⟩
  ·by_cases h0 : len = 0
   ·subst h0
    exact .inl ⟨by simp,_,_,rfl⟩
   ·obtain ⟨b, off, spot⟩ := a
    have hspot : spot = none := by
     obtain ⟨rv,hc,-⟩ := hf 0 (by omega)
     simpa [Addr.add] using World.cell?_spot hc
    subst hspot;refine .inr ⟨b,off,cap,by rw [hlen],by rw [hlen];omega,by unfold maxLen at hm;omega,fun j hj => ?_⟩
    rw [hlen] at hj;have hg : ((List.range len).map f).getD j [] = f j := by simp [qy,hj]
    rw [hg];obtain ⟨rv,hc,hs,-⟩ := hf j hj;rw [add_plain,add_plain] at hc;exact ⟨rv,by simpa using hc,hs⟩
  ·rw [hlen]
   have h := qcn ((List.range len).map D);rw [List.length_map,List.length_range] at h;simp only [Rows.uptoBulk];omega
  ·intro row hrow
   simp only [List.mem_map,List.mem_range] at hrow;obtain ⟨i,hi,rfl⟩ := hrow;obtain ⟨rv,-,-,hb⟩ := hf i hi;have h1 : Rows.uptoBulk (D i) ≤ Rows.uptoBulkAll ((List.range len).map D) := qlm (List.mem_map.2 ⟨i,List.mem_range.2 hi,rfl⟩);simp only [Rows.uptoBulk];omega
theorem quj {fuel : Nat} {vs : List Value} {y : DataW H × List MemPlace} (h : DataW.trod enc qP W 0 (fun _ => true) true fuel 29 vs = some y) :
  ∃ x y' f b c m : Int,vs = [.int .i64 x,.int .i64 y',.int .i64 f,.int .i64 b,.int .i64 c,.int .i64 m] ∧ (-9223372036854775808 ≤ m ∧ m ≤ 9223372036854775807) := by
 obtain ⟨y0,y1,y2,y3,n,-,hl,e0,e1,e2,e3⟩ := trod_struct4 Tryz.underlying29 h;rw [show Tryz.prog.cellsOf 29 = 6 by kernel_rfl] at hl
 match vs,hl with
 | [v0,v1,v2,v3,v4,v5],_ =>
  simp only [show Tryz.prog.cellsOf 3 = 1 by kernel_rfl,show Tryz.prog.cellsOf 26 = 3 by kernel_rfl] at e0 e1 e2 e3
  obtain ⟨a0,k0,_,w0⟩ := DataW.trod_int Tryz.underlying3 e0;obtain ⟨a1,k1,_,w1⟩ := DataW.trod_int Tryz.underlying3 e1;obtain ⟨f,b,x,k2,-⟩ := Grd.qbw e2;obtain ⟨a3,k3,_,w3⟩ := DataW.trod_int Tryz.underlying3 e3;obtain rfl : v0 = _ := by simpa using k0
  obtain rfl : v1 = _ := by simpa using k1
  obtain ⟨rfl,rfl,rfl⟩ : v2 = _ ∧ v3 = _ ∧ v4 = _ := by simpa using k2
  obtain rfl : v5 = _ := by simpa using k3
  exact ⟨a0,a1,f,b,x,a3,rfl,i64_in w3⟩
theorem qo1 {fuel : Nat} {vs : List Value} {y : DataW H × List MemPlace} (h : DataW.trod enc qP W 0 (fun _ => true) true fuel 24 vs = some y) :
  ∃ (a b : Int) (u : Value) (cs : List C),vs = [.int .i64 a,.int .i64 b,u] ∧ SliceAt W u cs ∧ cs.length ≤ Rows.uptoBulk y.1 := by
 obtain ⟨y0,y1,y2,n,hy,hl,e0,e1,e2⟩ := Deep.trod_struct3 Tryz.underlying24 h;rw [show Tryz.prog.cellsOf 24 = 3 by kernel_rfl] at hl
 match vs,hl with
 | [v0,v1,v2],_ =>
  simp only [show Tryz.prog.cellsOf 3 = 1 by kernel_rfl,show Tryz.prog.cellsOf 22 = 1 by kernel_rfl] at e0 e1 e2
  obtain ⟨a0,k0,_,w0⟩ := DataW.trod_int Tryz.underlying3 e0;obtain ⟨a1,k1,_,w1⟩ := DataW.trod_int Tryz.underlying3 e1;obtain ⟨cs,hs,-,hb⟩ := Grd.qfw (show DataW.trod enc qP W 0 (fun _ => true) true n 22 [v2] = some y2 from e2)
  obtain rfl : v0 = _ := by simpa using k0
  obtain rfl : v1 = _ := by simpa using k1
  refine ⟨a0,a1,v2,cs,rfl,hs,?_⟩;have h1 := qgo hb;rw [hy];simp only [Rows.uptoBulk,Rows.uptoBulkAll];omega
theorem open_screen {r : Reach} {b0 : Nat} {v : Value} {d : DataW H} {p : List MemPlace} (hv : Value.okWide qP W r b0 32 v) (h : DataW.Trod enc qP W 0 (fun _ => true) true 32 v d p) :
  ∃ (s : Scr) (cv tv gv : Value),v = .agg (scrA s cv tv gv) ∧ Zh W s cv tv gv ∧ ((-9223372036854775808 ≤ s.modes ∧ s.modes ≤ 9223372036854775807) ∧ (-9223372036854775808 ≤ s.km ∧ s.km ≤ 9223372036854775807) ∧ (-2147483648 ≤ s.last ∧ s.last ≤ 2147483647)) ∧ s.title.size ≤ Rows.uptoBulk d ∧ s.gone.length ≤ Rows.uptoBulk d ∧ s.tabs.length ≤ Rows.uptoBulk d ∧ s.cs.length ≤ Rows.uptoBulk d ∧ ∀ row ∈ s.gone,row.length ≤ Rows.uptoBulk d := by
 obtain ⟨cs,rfl,hsz⟩ := okWide_struct qu hv;obtain ⟨fuel,hf⟩ := h;obtain ⟨y0,y1,y2,y3,y4,y5,y6,y7,y8,y9,y10,y11,y12,n,hx,hl,h0,h1,h2,h3,h4,h5,h6,h7,h8,h9,h10,h11,h12⟩ := qh6 qu hf;rw [show Tryz.prog.cellsOf 32 = 22 by kernel_rfl] at hl
 obtain ⟨l⟩ := cs
 match l,hl with
 | [c0,c1,c2,c3,c4,c5,c6,c7,c8,c9,c10,c11,c12,c13,c14,c15,c16,c17,c18,c19,c20,c21],_ =>
  simp only [show Tryz.prog.cellsOf 3 = 1 by kernel_rfl,show Tryz.prog.cellsOf 21 = 1 by kernel_rfl,show Tryz.prog.cellsOf 9 = 1 by kernel_rfl,show Tryz.prog.cellsOf 4 = 1 by kernel_rfl,show Tryz.prog.cellsOf 27 = 1 by kernel_rfl,show Tryz.prog.cellsOf 30 = 1 by kernel_rfl,show Tryz.prog.cellsOf 24 = 3 by kernel_rfl,show Tryz.prog.cellsOf 26 = 3 by kernel_rfl,show Tryz.prog.cellsOf 29 = 6 by kernel_rfl,Value.cells] at h0 h1 h2 h3 h4 h5 h6 h7 h8 h9 h10 h11 h12
  obtain ⟨a0,a1,u,gcs,k0,hs0,hb0⟩ := qo1 h0;obtain ⟨a3,k1,_,w1⟩ := DataW.trod_int Tryz.underlying3 h1;obtain ⟨a4,k2,_,w2⟩ := DataW.trod_int Tryz.underlying3 h2;obtain ⟨a5,k3,_⟩ := DataW.trod_bool Tryz.underlying4 h3;obtain ⟨f,b,x,k4,-⟩ := Grd.qbw h4;obtain ⟨a9,k5,_,w5⟩ := DataW.trod_int Tryz.underlying3 h5;obtain ⟨a10,k6,_,w6⟩ := DataW.trod_int Tryz.underlying3 h6;obtain ⟨a11,k7,_,w7⟩ := DataW.trod_int Tryz.underlying3 h7;obtain ⟨tl,hs8,hb8⟩ := open_bools (show DataW.trod enc qP W 0 (fun _ => true) true n 27 [c12] = some y8 from h8)
  obtain ⟨b13,b14,b15,b16,b17,b18,k9,w9⟩ := quj h9;obtain ⟨a19,k10,_,w10⟩ := DataW.trod_int Tryz.underlying21 h10;obtain ⟨a20,k11,g11,w11⟩ := DataW.trod_string Tryz.underlying9 h11;obtain ⟨gl,hs12,hb12,hr12⟩ := qug (show DataW.trod enc qP W 0 (fun _ => true) true n 30 [c21] = some y12 from h12)
  obtain ⟨rfl,rfl,rfl⟩ : c0 = _ ∧ c1 = _ ∧ c2 = _ := by simpa using k0
  obtain rfl : c3 = _ := by simpa using k1
  obtain rfl : c4 = _ := by simpa using k2
  obtain rfl : c5 = _ := by simpa using k3
  obtain ⟨rfl,rfl,rfl⟩ : c6 = _ ∧ c7 = _ ∧ c8 = _ := by simpa using k4
  obtain rfl : c9 = _ := by simpa using k5
  obtain rfl : c10 = _ := by simpa using k6
  obtain rfl : c11 = _ := by simpa using k7
  obtain ⟨rfl,rfl,rfl,rfl,rfl,rfl⟩ : c13 = _ ∧ c14 = _ ∧ c15 = _ ∧ c16 = _ ∧ c17 = _ ∧ c18 = _ := by simpa using k9
  obtain rfl : c19 = _ := by simpa using k10
  obtain rfl : c20 = _ := by simpa using k11
  have hb : Rows.uptoBulk d = Rows.uptoBulk y0.1 + (Rows.uptoBulk y1.1 + (Rows.uptoBulk y2.1 + (Rows.uptoBulk y3.1 + (Rows.uptoBulk y4.1 + (Rows.uptoBulk y5.1 + (Rows.uptoBulk y6.1 + (Rows.uptoBulk y7.1 + (Rows.uptoBulk y8.1 + (Rows.uptoBulk y9.1 + (Rows.uptoBulk y10.1 + (Rows.uptoBulk y11.1 + (Rows.uptoBulk y12.1 + 0)))))))))))) + 1 := by
   rw [show d = _ from hx]
   simp only [Rows.uptoBulk,Rows.uptoBulkAll]
  have b11 : Rows.uptoBulk y11.1 = a20.data.toList.length + 1 := by rw [g11];simp only [Rows.uptoBulk]
  have s11 : a20.size = a20.data.toList.length := by rw [Array.length_toList];rfl
  exact ⟨⟨a0,a1,gcs,a3,a4,a5,f,b,x,a9,a10,a11,tl,b13,b14,b15,b16,b17,b18,a19,a20,gl⟩,c2,c12,c21,rfl,⟨hs0,hs8,hs12⟩,⟨i64_in w7,w9,i32_in w10⟩,by show a20.size ≤ _;omega,by show gl.length ≤ _;omega,by show tl.length ≤ _;omega,by show gcs.length ≤ _;omega,fun row hrow => by have := hr12 row hrow;omega⟩
theorem fits_of {s : Scr} {k : Nat} (h : (-9223372036854775808 ≤ s.modes ∧ s.modes ≤ 9223372036854775807) ∧ (-9223372036854775808 ≤ s.km ∧ s.km ≤ 9223372036854775807) ∧ (-2147483648 ≤ s.last ∧ s.last ≤ 2147483647)) (h1 : s.title.size ≤ k) (h2 : s.gone.length ≤ k) (h3 : s.tabs.length ≤ k) (hk : k ≤ 1048576) : Fits s := ⟨h.1.1,h.1.2,h.2.1.1,h.2.1.2,by omega,by omega,by omega⟩
end
end Put
namespace Stl
def looks : List (Int × Int × Int) := [(1,22,1),(2,22,2),(3,23,4),(4,24,8),(5,25,16),(7,27,32),(9,29,64)]
def qcu (x : Int × Int × Int) : List Value := [.int .i64 x.1,.int .i64 x.2.1,.int .i64 x.2.2]
def lookCells : Array Value := (looks.flatMap qcu).toArray
def Tab (w : World) : Prop := ∃ (t : TypeId) (fr : Nat × Nat),w.heap[4]? = some (.cells lookCells t fr)
theorem Tab.below {B : Nat} {w w' : World} (h : Tab w) (hb : Below B w w') (hB : 4 < B) : Tab w' := by
 unfold Tab at h ⊢;rw [hb.block _ hB];exact h
theorem Tab.pos {w : World} (h : Tab w) : 4 < w.heap.size := by
 obtain ⟨t,fr,h⟩ := h;have := (Array.getElem?_eq_some_iff.1 h).1;omega
theorem looks_at (k : Nat) (hk : k < 7) : ∃ a b c : Int, looks.drop k = (a, b, c) :: looks.drop (k + 1) ∧ a < b ∧
  ∀ wr : World,(Instr.index 199 (.agg lookCells) (.int .i64 (k : Int))).run qP wr = .ok (.agg #[.int .i64 a,.int .i64 b,.int .i64 c]) wr := by
 have : k = 0 ∨ k = 1 ∨ k = 2 ∨ k = 3 ∨ k = 4 ∨ k = 5 ∨ k = 6 := by omega
 rcases this with rfl | rfl | rfl | rfl | rfl | rfl | rfl <;>
  exact ⟨_,_,_,rfl,by decide,fun wr => by kernel_rfl⟩
def step (n : Int) (y : Int) (k : Int × Int × Int) : Int :=
 if n = k.2.1 then bits .andNot .i64 (if n = k.1 then bits .or .i64 y k.2.2 else y) k.2.2 else if n = k.1 then bits .or .i64 y k.2.2 else y
def sc (n : Int) : Int × Bool := if 30 ≤ n ∧ n ≤ 37 then (n - 29,true) else if n = 39 then (0,true) else if 90 ≤ n ∧ n ≤ 97 then (n - 81,true) else (0,false)
def one (s : Int × Int × Int) (n : Int) : Int × Int × Int :=
 if n ≤ 0 then (0,0,0)
 else (if (sc n).2 then (sc n).1 else s.1,if (sc (n - 10)).2 then (sc (n - 10)).1 else s.2.1,looks.foldl (step n) s.2.2)
def stv (s : Int × Int × Int) : Value := .agg #[.int .i64 s.1,.int .i64 s.2.1,.int .i64 s.2.2]
theorem qdd (n : Int) (w : World) :
  Calls qP 245 #[.int .i64 n] w fun e w' => e = .returned (.tuple #[.int .i64 (sc n).1,.bool (sc n).2]) ∧ w = w' := by
 unfold sc
 by_cases h1 : 30 ≤ n ∧ n ≤ 37
 ·rw [if_pos h1]
  obtain ⟨h1a,h1b⟩ := h1;go_enter Tryz.func245,Tryz.ntmps245;go_wp2;go_ret2;exact ⟨rfl,rfl⟩
 ·rw [if_neg h1]
  by_cases h2 : n = 39
  ·subst h2
   go_enter Tryz.func245,Tryz.ntmps245;go_wp2;go_ret2;exact ⟨rfl,rfl⟩
  ·rw [if_neg h2]
   by_cases h3 : 90 ≤ n ∧ n ≤ 97
   ·rw [if_pos h3]
    obtain ⟨h1a,h1b⟩ := h3;go_enter Tryz.func245,Tryz.ntmps245;go_wp2;go_ret2;exact ⟨rfl,rfl⟩
   ·rw [if_neg h3]
    go_enter Tryz.func245,Tryz.ntmps245;go_wp2
    all_goals (first | omega | skip)
    all_goals (go_ret2;exact ⟨rfl,rfl⟩)
theorem one3 (a b c : Int) : (#[Value.int .i64 a,.int .i64 b,.int .i64 c] : Array Value).all (·.oneCell') = true := by simp [Value.oneCell']
theorem qal {w : World} {g : Nat} {t : TypeId} {a b c : Value} (h : w.heap[g]? = some (.cells #[a, b, c] t (0, 0))) :
  w.cell? ⟨g,0,none⟩ = some a ∧ w.cell? ⟨g,1,none⟩ = some b ∧ w.cell? ⟨g,2,none⟩ = some c ∧ (∀ i,w.frozen? ⟨g,i,none⟩ = false) := by
 refine ⟨by simp [World.cell?,h],by simp [World.cell?,h],by simp [World.cell?,h],fun i => by simp [World.frozen?,h]⟩
theorem one_pos (f b x n : Int) (w : World) (hT : Tab w) (h0 : 0 < n) (hn : n ≤ 9223372036854775807) :
  Calls qP 241 #[.agg #[.int .i64 f,.int .i64 b,.int .i64 x],.int .i64 n] w fun e w' => e = .returned (stv (one (f,b,x) n)) ∧ Below w.heap.size w w' := by
 obtain ⟨tt,fr,hT⟩ := hT;have HT : Hid (w.heap[4]? = some (.cells lookCells tt fr)) := hT;have HT2 : Hid (∀ o1 o2,((w.alloc o1).alloc o2).heap[4]? = some (.cells lookCells tt fr)) := fun o1 o2 => by
  have hp := (Array.getElem?_eq_some_iff.1 hT).1;rw [qs _ _ _ (by first | (simp;done) | (simp;omega)),qs _ _ _ hp];exact hT
 have HP : 4 < w.heap.size := (Array.getElem?_eq_some_iff.1 hT).1;clear hT;go_enter Tryz.func241,Tryz.ntmps241;go_wp2_with (refine ql rfl 199 (.global 4) rfl 4 rfl _ lookCells _ _ (HT2.out _ _) Tryz.underlying199 rfl (by kernel_rfl) ?_)
 go_loopg [15] 7 (fun g s wr => ∃ (k : Nat) (y : Int),k ≤ 7 ∧ 7 - k ≤ g ∧ s = .int .i64 k ∧ Below w.heap.size w wr ∧ w.heap.size + 2 ≤ wr.heap.size ∧ wr.heap[w.heap.size]? = some (.cells #[.int .i64 f,.int .i64 b,.int .i64 y] 26 (0,0)) ∧ wr.heap[w.heap.size + 1]? = some (.cells #[.int .i64 0,.int .i64 0,.int .i64 0] 26 (0,0)) ∧ (looks.drop k).foldl (step n) y = looks.foldl (step n) x)
 case atStart => exact ⟨0,x,by omega,by omega,rfl,((qr _ _).alloc (qd _) _).alloc (by simp) _,by simp,(qs _ _ _ (by simp)).trans (qf _ _),by simpa using qf (w.alloc _) _,rfl⟩
 case round =>
  obtain ⟨k,y,hk,hg,rfl,hb,hsz,hv,hr,hl⟩ := hrel
  by_cases hlt : k < 7
  ·obtain ⟨a, o, c, hd, hao, hi⟩ := looks_at k hlt
   have HD : Hid (looks.drop k = (a,o,c) :: looks.drop (k + 1)) := hd;clear hd;have hi := hi wr;have hK : (wr.alloc (.cells #[.int .i64 a,.int .i64 o,.int .i64 c] 198)).heap[w.heap.size]? = some (.cells #[.int .i64 f,.int .i64 b,.int .i64 y] 26 (0,0)) := (qs _ _ _ (by omega)).trans hv
   have hKr : (wr.alloc (.cells #[.int .i64 a,.int .i64 o,.int .i64 c] 198)).heap[w.heap.size + 1]? = some (.cells #[.int .i64 0,.int .i64 0,.int .i64 0] 26 (0,0)) := (qs _ _ _ (by omega)).trans hr
   have hc2 : (wr.alloc (.cells #[.int .i64 a,.int .i64 o,.int .i64 c] 198)).cell? ⟨w.heap.size,2,none⟩ = some (.int .i64 y) := by simp [World.cell?,hK]
   have hf2 : (wr.alloc (.cells #[.int .i64 a,.int .i64 o,.int .i64 c] 198)).frozen? ⟨w.heap.size,2,none⟩ = false := by simp [World.frozen?,hK]
   have hne : w.heap.size ≠ wr.heap.size := by omega
   have HL : Hid ((looks.drop k).foldl (step n) y = looks.foldl (step n) x) := hl;clear hl;have hbK := hb.alloc (by omega) (.cells #[.int .i64 a,.int .i64 o,.int .i64 c] 198)
   by_cases hna : n = a
   ·have hno : n ≠ o := by omega
    have HS : Hid (step n y (a,o,c) = bits .or .i64 y c) := by unfold Hid step;rw [if_neg hno,if_pos hna]
    go_wp2_with fail;go_roundg (7 - (k + 1))
    case measure => omega
    case rel => exact ⟨k + 1,bits .or .i64 y c,by omega,by omega,by go_num,hbK.setCell (qd _) _,by simp;omega,heap_setCell_same _ _ _ _ _ _ hK,(heap_setCell_other _ _ _ _ (by simp)).trans hKr,by rw [← HL.out,HD.out,List.foldl_cons,HS.out]⟩
   ·by_cases hno : n = o
    ·have HS : Hid (step n y (a, o, c) = bits .andNot .i64 y c) := by unfold Hid step; rw [if_pos hno, if_neg hna]
     go_wp2_with fail;go_roundg (7 - (k + 1))
     case measure => omega
     case rel => exact ⟨k + 1,bits .andNot .i64 y c,by omega,by omega,by go_num,hbK.setCell (qd _) _,by simp;omega,heap_setCell_same _ _ _ _ _ _ hK,(heap_setCell_other _ _ _ _ (by simp)).trans hKr,by rw [← HL.out,HD.out,List.foldl_cons,HS.out]⟩
    ·have HS : Hid (step n y (a, o, c) = y) := by unfold Hid step; rw [if_neg hno, if_neg hna]
     go_wp2_with fail;go_roundg (7 - (k + 1))
     case measure => omega
     case rel => exact ⟨k + 1,y,by omega,by omega,by go_num,hbK,by simp;omega,hK,hKr,by rw [← HL.out,HD.out,List.foldl_cons,HS.out]⟩
  ·have hk7 : k = 7 := by omega
   subst hk7;have HL : Hid (y = looks.foldl (step n) x) := hl;clear hl;obtain ⟨c0,c1,c2,cf⟩ := qal hv;have f0 := cf 0;have f1 := cf 1
   by_cases h1 : (sc n).2 = true
   ·by_cases h2 : (sc (n - 10)).2 = true
    ·exfalso
     revert h1 h2
     unfold sc
     repeat' split
     all_goals first | (intro a b;cases a;done) | (intro a b;cases b;done) | omega
    ·have h2 : (sc (n - 10)).2 = false := by simpa using h2
     have HE : Hid (one (f,b,x) n = ((sc n).1,b,y)) := by unfold Hid one;rw [if_neg (by omega),h1,h2,HL.out];rfl
     have hv1 := heap_setCell_same wr w.heap.size 0 _ _ (.int .i64 (sc n).1) hv;have hr1 := (heap_setCell_other wr ⟨w.heap.size,0,none⟩ (w.heap.size + 1) (.int .i64 (sc n).1) (by simp)).trans hr
     have hb1 := hb.setCell (p := ⟨w.heap.size,0,none⟩) (qd _) (.int .i64 (sc n).1);go_wp2_with (first | (go_at_call 245;refine (qdd _ _).mono ?_;rintro e W1 ⟨rfl,rfl⟩) | (refine ql rfl 26 (.tmp 2) rfl w.heap.size rfl _ _ _ _ hv1 Tryz.underlying26 rfl (by kernel_rfl) ?_) | (refine qh rfl 26 (.tmp 4) (.tmp 56) rfl (w.heap.size + 1) #[.int .i64 ((sc n).1),.int .i64 b,.int .i64 y] rfl rfl _ _ hr1 (by kernel_rfl) rfl (one3 _ _ _) ?_))
     (try simp only [qv,qw])
     refine qk (v := stv (one (f,b,x) n)) ?_ rfl ⟨rfl,qi hb1 (by omega) _⟩
     rw [HE.out];exact qn rfl _ _ (w.heap.size + 1) _ _ _ _ rfl (qj _ _ _ _ _ _ hr1) Tryz.underlying26 rfl (by kernel_rfl)
   ·have h1 : (sc n).2 = false := by simpa using h1
    by_cases h2 : (sc (n - 10)).2 = true
    ·have HE : Hid (one (f, b, x) n = (f, (sc (n - 10)).1, y)) := by unfold Hid one; rw [if_neg (by omega), h1, h2, HL.out]; rfl
     have hv2 := heap_setCell_same wr w.heap.size 1 _ _ (.int .i64 (sc (n - 10)).1) hv;have hr2 := (heap_setCell_other wr ⟨w.heap.size,1,none⟩ (w.heap.size + 1) (.int .i64 (sc (n - 10)).1) (by simp)).trans hr
     have hb2 := hb.setCell (p := ⟨w.heap.size,1,none⟩) (qd _) (.int .i64 (sc (n - 10)).1);go_wp2_with (first | (go_at_call 245;refine (qdd _ _).mono ?_;rintro e W1 ⟨rfl,rfl⟩) | (refine ql rfl 26 (.tmp 2) rfl w.heap.size rfl _ _ _ _ hv2 Tryz.underlying26 rfl (by kernel_rfl) ?_) | (refine qh rfl 26 (.tmp 4) (.tmp 56) rfl (w.heap.size + 1) #[.int .i64 f,.int .i64 ((sc (n - 10)).1),.int .i64 y] rfl rfl _ _ hr2 (by kernel_rfl) rfl (one3 _ _ _) ?_))
     (try simp only [qv,qw])
     refine qk (v := stv (one (f,b,x) n)) ?_ rfl ⟨rfl,qi hb2 (by omega) _⟩
     rw [HE.out];exact qn rfl _ _ (w.heap.size + 1) _ _ _ _ rfl (qj _ _ _ _ _ _ hr2) Tryz.underlying26 rfl (by kernel_rfl)
    ·have h2 : (sc (n - 10)).2 = false := by simpa using h2
     have HE : Hid (one (f,b,x) n = (f,b,y)) := by unfold Hid one;rw [if_neg (by omega),h1,h2,HL.out];rfl
     go_wp2_with (first | (go_at_call 245;refine (qdd _ _).mono ?_;rintro e W1 ⟨rfl,rfl⟩) | (refine ql rfl 26 (.tmp 2) rfl w.heap.size rfl _ _ _ _ hv Tryz.underlying26 rfl (by kernel_rfl) ?_) | (refine qh rfl 26 (.tmp 4) (.tmp 56) rfl (w.heap.size + 1) #[.int .i64 f,.int .i64 b,.int .i64 y] rfl rfl _ _ hr (by kernel_rfl) rfl (one3 _ _ _) ?_))
     (try simp only [qv,qw])
     refine qk (v := stv (one (f,b,x) n)) ?_ rfl ⟨rfl,qi hb (by omega) _⟩
     rw [HE.out];exact qn rfl _ _ (w.heap.size + 1) _ _ _ _ rfl (qj _ _ _ _ _ _ hr) Tryz.underlying26 rfl (by kernel_rfl)
theorem new2 (w : World) (o : Obj) (c : Array Value) (t : TypeId) : ((w.alloc o).alloc (.cells c t)).heap[w.heap.size + 1]? = some (.cells c t (0,0)) := by
 have h := qf (w.alloc o) (.cells c t);simpa using h
theorem q0h (s : Int × Int × Int) (n : Int) (w : World) (hT : Tab w) (hn : n ≤ 9223372036854775807) :
  Calls qP 241 #[stv s,.int .i64 n] w fun e w' => e = .returned (stv (one s n)) ∧ Below w.heap.size w w' := by
 by_cases h0 : 0 < n
 ·exact one_pos s.1 s.2.1 s.2.2 n w hT h0 hn
 ·obtain ⟨f, b, x⟩ := s
  have HE : Hid (one (f,b,x) n = (0,0,0)) := by unfold Hid one;rw [if_pos (by omega)]
  unfold stv;rw [HE.out];clear HE hT;go_enter Tryz.func241,Tryz.ntmps241;go_wp2
  (try simp only [qv,qw])
  refine qk (v := stv (0,0,0)) ?_ rfl ⟨rfl,((qr _ _).alloc (qd _) _).alloc (by simp) _⟩
  exact qn rfl _ _ (w.heap.size + 1) _ _ _ _ rfl (new2 w _ _ _) Tryz.underlying26 rfl (by kernel_rfl)
theorem Qh {a b : Bool} (h : a = b) : Ending.returned (.bool a) = .returned (.bool b) := by rw [h]
def Q5 (s : Int × Int × Int) : Bool := decide (0 ≤ s.1 ∧ s.1 ≤ 256 ∧ 0 ≤ s.2.1 ∧ s.2.1 ≤ 256 ∧ 0 ≤ s.2.2 ∧ s.2.2 ≤ 127)
def lng (s : Int × Int × Int) (a n : Int) : Int × Int × Int :=
 if n < 0 ∨ 256 ≤ n then s else if a = 38 then (n + 1,s.2) else (s.1,n + 1,s.2.2)
theorem qwr (s : Int × Int × Int) (a n : Int) (w : World) :
  Calls qP 240 #[stv s,.int .i64 a,.int .i64 n] w fun e w' => e = .returned (stv (lng s a n)) ∧ Below w.heap.size w w' := by
 obtain ⟨f,b,x⟩ := s;have hB : ∀ o1 o2 : Obj,Below w.heap.size w ((w.alloc o1).alloc o2) := fun o1 o2 => ((qr _ _).alloc (qd _) _).alloc (by simp) _
 by_cases h1 : n < 0 ∨ 256 ≤ n
 ·have HE : Hid (lng (f, b, x) a n = (f, b, x)) := by unfold Hid lng; rw [if_pos h1]
  rw [HE.out];clear HE;unfold stv
  by_cases h2 : n < 0
  ·clear h1
   go_enter Tryz.func240,Tryz.ntmps240;go_wp2
   (try simp only [qv,qw])
   refine qk (v := stv (f,b,x)) ?_ rfl ⟨rfl,hB _ _⟩;exact qn rfl _ _ (w.heap.size + 1) _ _ _ _ rfl (new2 w _ _ _) Tryz.underlying26 rfl (by kernel_rfl)
  ·have h3 : 256 ≤ n := by omega
   clear h1;go_enter Tryz.func240,Tryz.ntmps240;go_wp2
   (try simp only [qv,qw])
   refine qk (v := stv (f,b,x)) ?_ rfl ⟨rfl,hB _ _⟩;exact qn rfl _ _ (w.heap.size + 1) _ _ _ _ rfl (new2 w _ _ _) Tryz.underlying26 rfl (by kernel_rfl)
 ·have h2 : 0 ≤ n := by omega
  have h3 : n < 256 := by omega
  by_cases h4 : a = 38
  ·have HE : Hid (lng (f, b, x) a n = (n + 1, b, x)) := by unfold Hid lng; rw [if_neg h1, if_pos h4]
   rw [HE.out];clear HE h1;unfold stv;go_enter Tryz.func240,Tryz.ntmps240;go_wp2
   (try simp only [qv,qw])
   refine qk (v := stv (n + 1,b,x)) ?_ rfl ⟨rfl,hB _ _⟩;exact qn rfl _ _ (w.heap.size + 1) _ _ _ _ rfl (new2 w _ _ _) Tryz.underlying26 rfl (by kernel_rfl)
  ·have HE : Hid (lng (f, b, x) a n = (f, n + 1, x)) := by unfold Hid lng; rw [if_neg h1, if_neg h4]
   rw [HE.out];clear HE h1;unfold stv;go_enter Tryz.func240,Tryz.ntmps240;go_wp2
   (try simp only [qv,qw])
   refine qk (v := stv (f,n + 1,x)) ?_ rfl ⟨rfl,hB _ _⟩;exact qn rfl _ _ (w.heap.size + 1) _ _ _ _ rfl (new2 w _ _ _) Tryz.underlying26 rfl (by kernel_rfl)
def Jk : Int × Int × Int → List Int → Int × Int × Int
 | s,[] => s
 | s,[a] => one s a
 | s,[a,b] => one (one s a) b
 | s,a :: b :: c :: l => if (a = 38 ∨ a = 48) ∧ b = 5 then Jk (lng s a c) l else Jk (one s a) (b :: c :: l)
def isLg : List Int → Bool
 | a :: b :: _ :: _ => decide ((a = 38 ∨ a = 48) ∧ b = 5)
 | _ => false
theorem qej (s : Int × Int × Int) (l : List Int) (h : isLg l = true) : Jk s l = Jk (lng s (l.getD 0 0) (l.getD 2 0)) (l.drop 3) := by
 match l,h with
 | a :: b :: c :: l,h =>
  simp only [isLg,decide_eq_true_eq] at h;rw [Jk,if_pos h]
  rfl
theorem qf9 (s : Int × Int × Int) (a : Int) (l : List Int) (h : isLg (a :: l) = false) : Jk s (a :: l) = Jk (one s a) l := by
 match l,h with
 | [],_ => rfl
 | [b],_ => rfl
 | b :: c :: l,h =>
  simp only [isLg,decide_eq_false_iff_not] at h;rw [Jk,if_neg h]
theorem qsj {w : World} {a : Addr} {v : Value} (h : w.cell? a = some v) : a.block < w.heap.size := by
 simp only [World.cell?] at h
 cases hh : w.heap[a.block]? with
 | none => rw [hh] at h;cases h
 | some o => exact (Array.getElem?_eq_some_iff.1 hh).1
def Row (w : World) (b o : Nat) (xs : List Int) : Prop := ∀ j,j < xs.length → w.cell? ⟨b,o + j,none⟩ = some (.int .i64 (xs.getD j 0))
theorem Row.below {w w' : World} {b o : Nat} {xs : List Int} (h : Row w b o xs) (hb : Below w.heap.size w w') : Row w' b o xs :=
 fun j hj => (hb.cell (qsj (h j hj))).trans (h j hj)
theorem Row.drop {w : World} {b o : Nat} {xs : List Int} (h : Row w b o xs) (k : Nat) : Row w b (o + k) (xs.drop k) := by
 intro j hj;have := h (k + j) (by simp at hj;omega)
 rw [show o + k + j = o + (k + j) by omega,this]
 simp [qy]
theorem qp3 (b o c : Nat) (xs : List Int) (w : World) (hR : Row w b o xs) (hlen : xs.length ≤ 140737488355328) :
  Calls qP 239 #[.slice (some ⟨b,o,none⟩) xs.length c] w fun e w' => e = .returned (.bool (isLg xs)) ∧ w = w' := by
 by_cases h2 : 2 < xs.length
 ·match xs, h2 with
  | x :: y :: z :: l,_ =>
   have c0 := hR 0 (by simp)
   have c1 := hR 1 (by simp)
   simp only [List.getD_cons_zero,Nat.add_zero,List.getD_cons_succ,List.length_cons] at c0 c1 hlen ⊢;simp only [isLg];clear hR;go_enter Tryz.func239,Tryz.ntmps239;go_wp2
   all_goals (go_ret;exact ⟨Qh (by rw [Bool.eq_iff_iff];simp;try omega),rfl⟩)
 ·have HE : Hid (isLg xs = false) := by
   match xs,h2 with
   | [],_ | [_],_ | [_,_],_ => rfl
   | _ :: _ :: _ :: _,h => simp at h
  rw [HE.out];clear HE hR;generalize xs.length = n at *;go_enter Tryz.func239,Tryz.ntmps239;go_wp2
  all_goals (go_ret;exact ⟨rfl,rfl⟩)
theorem qy4 (f b x l0 l1 l2 : Int) (a n : Int) (w : World) (h : lng (f, b, x) a n = (l0, l1, l2)) :
  Calls qP 240 #[.agg #[.int .i64 f,.int .i64 b,.int .i64 x],.int .i64 a,.int .i64 n] w fun e w' => e = .returned (.agg #[.int .i64 l0,.int .i64 l1,.int .i64 l2]) ∧ Below w.heap.size w w' := by
 have := qwr (f,b,x) a n w;rwa [h] at this
theorem qz7 (f b x l0 l1 l2 : Int) (n : Int) (w : World) (hT : Tab w) (hn : n ≤ 9223372036854775807) (h : one (f, b, x) n = (l0, l1, l2)) :
  Calls qP 241 #[.agg #[.int .i64 f,.int .i64 b,.int .i64 x],.int .i64 n] w fun e w' => e = .returned (.agg #[.int .i64 l0,.int .i64 l1,.int .i64 l2]) ∧ Below w.heap.size w w' := by
 have := q0h (f,b,x) n w hT hn;rwa [h] at this
theorem set3 {W : World} {g : Nat} {t : TypeId} {a b c : Value} (h : W.heap[g]? = some (.cells #[a, b, c] t (0, 0))) (p q r : Value) :
  (((W.setCell ⟨g,0,none⟩ p).setCell ⟨g,1,none⟩ q).setCell ⟨g,2,none⟩ r).heap[g]? = some (.cells #[p,q,r] t (0,0)) :=
 heap_setCell_same _ _ _ _ _ _ (heap_setCell_same _ _ _ _ _ _ (heap_setCell_same _ _ _ _ _ _ h))
theorem qgk {W : World} {g k : Nat} (hk : k ≠ g) (p q r : Value) :
  (((W.setCell ⟨g,0,none⟩ p).setCell ⟨g,1,none⟩ q).setCell ⟨g,2,none⟩ r).heap[k]? = W.heap[k]? := by
 rw [heap_setCell_other _ _ _ _ hk,heap_setCell_other _ _ _ _ hk,heap_setCell_other _ _ _ _ hk]
theorem qhj {B : Nat} {w W : World} {g : Nat} (h : Below B w W) (hg : B ≤ g) (p q r : Value) :
  Below B w (((W.setCell ⟨g,0,none⟩ p).setCell ⟨g,1,none⟩ q).setCell ⟨g,2,none⟩ r) := ((h.setCell hg _).setCell hg _).setCell hg _
theorem qi9 {W : World} {g : Nat} (p q r : Value) :
  (((W.setCell ⟨g,0,none⟩ p).setCell ⟨g,1,none⟩ q).setCell ⟨g,2,none⟩ r).heap.size = W.heap.size := by simp
theorem qja (xs : List Int) (k : Nat) (hk : k < xs.length) : xs.drop k = xs.getD k 0 :: xs.drop (k + 1) := by
 rw [List.drop_eq_getElem_cons hk];simp [qy,hk]
theorem qrk (s : Int × Int × Int) (b o c : Nat) (xs : List Int) (w : World) (hT : Tab w) (hR : Row w b o xs) (h0 : xs ≠ []) (hlen : xs.length ≤ 140737488355328) (hc : xs.length ≤ c)
  (hw : ∀ x ∈ xs,x ≤ 9223372036854775807) :
  Calls qP 232 #[stv s,.slice (some ⟨b,o,none⟩) xs.length c] w fun e w' => e = .returned (stv (Jk s xs)) ∧ Below w.heap.size w w' := by
 obtain ⟨f,bk,x⟩ := s;have hpos : 0 < xs.length := by cases xs;exact absurd rfl h0;simp
 have HT : Hid (Tab w) := hT;have HR : Hid (Row w b o xs) := hR;have HW : Hid (∀ x ∈ xs,x ≤ 9223372036854775807) := hw;clear hT hR hw h0;unfold stv;go_enter Tryz.func232,Tryz.ntmps232;go_wp2_with fail;have hz : ((xs.length : Int) == 0) = false := by simp only [beq_eq_false_iff_ne,ne_eq];omega
 rw [hz];go_loopg [1] xs.length (fun g l wr => ∃ (k m cp : Nat) (ad : Addr) (s : Int × Int × Int),k ≤ xs.length ∧ xs.length - k ≤ g ∧ l = .slice (some ad) m cp ∧ k + m = xs.length ∧ m ≤ cp ∧ (0 < m → ad = ⟨b,o + k,none⟩) ∧ Below w.heap.size w wr ∧ w.heap.size + 2 ≤ wr.heap.size ∧ wr.heap[w.heap.size]? = some (.cells #[.int .i64 s.1,.int .i64 s.2.1,.int .i64 s.2.2] 26 (0,0)) ∧ wr.heap[w.heap.size + 1]? = some (.cells #[.int .i64 0,.int .i64 0,.int .i64 0] 26 (0,0)) ∧ Jk s (xs.drop k) = Jk (f,bk,x) xs)
 case atStart => exact ⟨0,xs.length,c,⟨b,o,none⟩,(f,bk,x),by omega,by omega,rfl,by omega,hc,fun _ => rfl,((qr _ _).alloc (qd _) _).alloc (by simp) _,by simp,(qs _ _ _ (by simp)).trans (qf _ _),new2 w _ _ _,rfl⟩
 case round =>
  obtain ⟨k,m,cp,ad,s,hk,hg,rfl,hm,hcp,had,hb,hsz,hv,hr,hl⟩ := hrel;have HL : Hid (Jk s (xs.drop k) = Jk (f,bk,x) xs) := hl;clear hl;have HRk : Hid (Row wr b (o + k) (xs.drop k)) := fun j hj => by
   have h := HR.out.drop k j hj;exact (hb.cell (qsj h)).trans h
  have hlen : (xs.drop k).length = xs.length - k := by simp
  by_cases hlt : k < xs.length
  ·obtain rfl := had (by omega)
   have hTk : Hid (Tab wr) := HT.out.below hb HT.out.pos;have KL : Hid (Calls qP 239 #[.slice (some ⟨b,o + k,none⟩) m cp] wr fun e w' => e = .returned (.bool (isLg (xs.drop k))) ∧ wr = w') := by
    have := qp3 b (o + k) cp (xs.drop k) wr HRk.out (by omega)
    rwa [hlen,show xs.length - k = m by omega] at this
   obtain ⟨f',b',x'⟩ := s
   by_cases hlg : isLg (xs.drop k) = true
   ·have h3 : k + 2 < xs.length := by
     match hxs : xs.drop k,hlg with
     | _ :: _ :: _ :: l,_ =>
      rw [hxs] at hlen;simp at hlen;omega
    rw [hlg] at KL;have q0 : wr.cell? ⟨b,o + k,none⟩ = some (.int .i64 ((xs.drop k).getD 0 0)) := HRk.out 0 (by omega)
    have q2 : wr.cell? ⟨b,o + k + 2,none⟩ = some (.int .i64 ((xs.drop k).getD 2 0)) := HRk.out 2 (by omega)
    have HE : Hid (Jk (f',b',x') (xs.drop k) = Jk (lng (f',b',x') ((xs.drop k).getD 0 0) ((xs.drop k).getD 2 0)) (xs.drop (k + 3))) := by
     have := qej (f',b',x') (xs.drop k) hlg;rwa [List.drop_drop] at this
    generalize (xs.drop k).getD 0 0 = y0 at *;generalize (xs.drop k).getD 2 0 = y2 at *
    rcases hlg3 : lng (f',b',x') y0 y2 with ⟨l0,l1,l2⟩
    have HG : Hid (lng (f',b',x') y0 y2 = (l0,l1,l2)) := hlg3;clear hlg3;have ⟨c0,c1,c2,cf⟩ := qal hv;clear hlen;go_wp2_with (go_at_call 239;refine KL.out.mono ?_;rintro e W1 ⟨rfl,rfl⟩);go_region_with (go_at_call 240;refine (qy4 f' b' x' l0 l1 l2 y0 y2 _ HG.out).mono ?_;rintro e W1 ⟨rfl,hb1⟩;have hv1 : W1.heap[w.heap.size]? = _ := (hb1.block _ (show w.heap.size < wr.heap.size by omega)).trans hv;have ⟨e0,e1,e2,ef⟩ := qal hv1;have ef0 := ef 0;have ef1 := ef 1;have ef2 := ef 2)
    all_goals (
     go_wp2_with fail
     all_goals (
      go_roundg (xs.length - (k + 3))
      case measure => omega
      case rel =>
       have hb1' : Below wr.heap.size wr W1 := ⟨hb1.os,hb1.tape,hb1.output,hb1.size,hb1.block⟩;have hs1 := hb1'.size;refine ⟨k + 3,m - 3,_,_,(l0,l1,l2),by omega,by omega,rfl,by omega,by omega,?_,qhj (hb.trans (hb1'.mono hb.size)) (qd _) _ _ _,?_,set3 hv1 _ _ _,(qgk (by omega) _ _ _).trans ((hb1'.block _ (by omega)).trans hr),?_⟩
       ·intro hpos
        first | rfl | omega
       ·rw [qi9];omega
       ·rw [← HL.out,HE.out,HG.out]))
   ·have hlg : isLg (xs.drop k) = false := by simpa using hlg
    rw [hlg] at KL;have q0 : wr.cell? ⟨b,o + k,none⟩ = some (.int .i64 (xs.getD k 0)) := by
     have := HRk.out 0 (by omega)
     rw [qja xs k hlt] at this;simpa using this
    have HE : Hid (Jk (f',b',x') (xs.drop k) = Jk (one (f',b',x') (xs.getD k 0)) (xs.drop (k + 1))) := by
     unfold Hid;rw [qja xs k hlt] at hlg ⊢;exact qf9 _ _ _ hlg
    have hy : xs.getD k 0 ≤ 9223372036854775807 := HW.out _ (by simp [qy,hlt])
    clear hlg;generalize xs.getD k 0 = y0 at *
    rcases hlg3 : one (f',b',x') y0 with ⟨l0,l1,l2⟩
    have HG : Hid (one (f',b',x') y0 = (l0,l1,l2)) := hlg3;clear hlg3;have ⟨c0,c1,c2,cf⟩ := qal hv;clear hlen;go_wp2_with (go_at_call 239;refine KL.out.mono ?_;rintro e W1 ⟨rfl,rfl⟩);go_region_with (go_at_call 241;refine (qz7 f' b' x' l0 l1 l2 y0 wr.drew hTk.out hy HG.out).mono ?_;rintro e W1 ⟨rfl,hb1⟩;have hv1 : W1.heap[w.heap.size]? = _ := (hb1.block _ (show w.heap.size < wr.heap.size by omega)).trans hv;have ⟨e0,e1,e2,ef⟩ := qal hv1;have ef0 := ef 0;have ef1 := ef 1;have ef2 := ef 2)
    all_goals (
     go_wp2_with fail
     all_goals (
      go_roundg (xs.length - (k + 1))
      case measure => omega
      case rel =>
       have hb1' : Below wr.heap.size wr W1 := ⟨hb1.os,hb1.tape,hb1.output,hb1.size,hb1.block⟩;have hs1 := hb1'.size;refine ⟨k + 1,m - 1,_,_,(l0,l1,l2),by omega,by omega,rfl,by omega,by omega,?_,qhj (hb.trans (hb1'.mono hb.size)) (qd _) _ _ _,?_,set3 hv1 _ _ _,(qgk (by omega) _ _ _).trans ((hb1'.block _ (by omega)).trans hr),?_⟩
       ·intro hpos
        first | rfl | omega
       ·rw [qi9];omega
       ·rw [← HL.out,HE.out,HG.out]))
  ·have hk2 : k = xs.length := by omega
   have hm0 : m = 0 := by omega
   subst hm0;obtain ⟨f',b',x'⟩ := s;have HE : Hid ((f',b',x') = Jk (f,bk,x) xs) := by
    have := HL.out;rw [hk2,List.drop_length] at this;exact this
   go_wp2_with (first | (refine ql rfl 26 (.tmp 2) rfl w.heap.size rfl _ _ _ _ hv Tryz.underlying26 rfl (by kernel_rfl) ?_) | (refine qh rfl 26 (.tmp 4) (.tmp 31) rfl (w.heap.size + 1) #[.int .i64 f',.int .i64 b',.int .i64 x'] rfl rfl _ _ hr (by kernel_rfl) rfl (one3 _ _ _) ?_))
   (try simp only [qv,qw])
   refine qk (v := stv (f',b',x')) ?_ rfl ⟨by rw [HE.out];rfl,qi hb (by omega) _⟩
   exact qn rfl _ _ (w.heap.size + 1) _ _ _ _ rfl (qj _ _ _ _ _ _ hr) Tryz.underlying26 rfl (by kernel_rfl)
def qbs (w : World) (v : Value) (xs : List Int) : Prop :=
 (xs = [] ∧ ∃ a c,v = .slice a 0 c) ∨ (xs ≠ [] ∧ ∃ b o c,v = .slice (some ⟨b,o,none⟩) xs.length c ∧ xs.length ≤ c ∧ Row w b o xs)
theorem qbs.below {w w' : World} {v : Value} {xs : List Int} (h : qbs w v xs) (hb : Below w.heap.size w w') : qbs w' v xs := by
 rcases h with h | ⟨h0,b,o,c,hv,hc,hR⟩
 ·exact .inl h
 ·exact .inr ⟨h0,b,o,c,hv,hc,hR.below hb⟩
def Yo (s : Int × Int × Int) (xs : List Int) : Int × Int × Int := if xs = [] then (0,0,0) else Jk s xs
theorem qu2 (s : Int × Int × Int) (v : Value) (xs : List Int) (w : World) (hT : Tab w) (hI : qbs w v xs) (hlen : xs.length ≤ 140737488355328) (hw : ∀ x ∈ xs, x ≤ 9223372036854775807) :
  Calls qP 232 #[stv s,v] w fun e w' => e = .returned (stv (Yo s xs)) ∧ Below w.heap.size w w' := by
 rcases hI with ⟨rfl,a,c,rfl⟩ | ⟨h0,b,o,c,rfl,hc,hR⟩
 ·clear hw hlen hT
  have HE : Hid (Yo s [] = (0,0,0)) := rfl;rw [HE.out];obtain ⟨f,bk,x⟩ := s;unfold stv;go_enter Tryz.func232,Tryz.ntmps232;go_wp2
  (try simp only [qv,qw])
  refine qk (v := stv (0,0,0)) ?_ rfl ⟨rfl,((qr _ _).alloc (qd _) _).alloc (by simp) _⟩
  exact qn rfl _ _ (w.heap.size + 1) _ _ _ _ rfl (new2 w _ _ _) Tryz.underlying26 rfl (by kernel_rfl)
 ·unfold Yo
  rw [if_neg h0];exact qrk s b o c xs w hT hR h0 hlen hc hw
theorem qda : ∀ (l : List (Int × Int × Int)) (cs : List Value), cs.length = 3 * l.length → (∀ i x, l[i]? = some x → (cs.drop (i * 3)).take 3 = qcu x) → cs = l.flatMap qcu
 | [],cs,hl,_ => by simpa using hl
 | x :: t,cs,hl,h => by
  have h0 := h 0 x rfl
  have ht := qda t (cs.drop 3) (by simp only [List.length_drop, List.length_cons] at hl ⊢; omega) (fun i y hy => by
   have := h (i + 1) y (by simpa using hy)
   rw [List.drop_drop]
   rwa [show 3 + i * 3 = (i + 1) * 3 from by omega])
  simp only [Nat.zero_mul,List.drop_zero] at h0;rw [List.flatMap_cons,← ht,← h0,List.take_append_drop]
theorem qk7 {H : Type} : (Rows.laid_trellis_style_looks : DataW H) = .agg (looks.map fun x => .agg [.lit (.int .i64 x.1),.lit (.int .i64 x.2.1),.lit (.int .i64 x.2.2)]) := rfl
theorem tab_of_reads {w : World} (h : Lib.VarReads qP w "trellis/style.looks" Rows.laid_trellis_style_looks) : Tab w := by
 obtain ⟨g, t, cs, fuel, p, hg, hty, hvar, hd⟩ := h;obtain rfl := Option.some.inj ((show Tryz.prog.globalNamed "trellis/style.looks" = some 4 by kernel_rfl).symm.trans hg)
 obtain rfl := Option.some.inj ((show (Tryz.prog.globals[4]?).map (fun x => x.type) = some 199 by kernel_rfl).symm.trans hty)
 have hlen : cs.toList.length = 21 := by
  obtain ⟨xs,m,_,_,hl,_,_⟩ := DataW.trod_array Tryz.underlying199 hd;rw [hl];kernel_rfl
 rw [qk7] at hd;have hcs : cs.toList = looks.flatMap qcu := by
  refine qda looks cs.toList (by rw [hlen];rfl) (fun i x hx => ?_)
  have hi : i < 7 := (List.getElem?_eq_some_iff.1 hx).1;obtain ⟨fuel',d,q,hdi,he⟩ := Lib.array_elem Tryz.underlying199 hd i hi;rw [List.getElem?_map,hx] at hdi;obtain rfl := Option.some.inj hdi;rw [show Tryz.prog.cellsOf 198 = 3 by kernel_rfl] at he
  obtain ⟨y0,y1,y2,n,hy,hl,e0,e1,e2⟩ := Deep.trod_struct3 Tryz.underlying198 he;rw [show Tryz.prog.cellsOf 198 = 3 by kernel_rfl] at hl
  generalize (cs.toList.drop (i * 3)).take 3 = c3 at *;simp only [Prod.mk.injEq,DataW.agg.injEq,List.cons.injEq,and_true] at hy;obtain ⟨⟨g0,g1,g2⟩,_⟩ := hy;simp only [show Tryz.prog.cellsOf 3 = 1 by kernel_rfl] at e0 e1 e2
  obtain ⟨z0,k0,rfl,_⟩ := DataW.trod_int Tryz.underlying3 e0;obtain ⟨z1,k1,rfl,_⟩ := DataW.trod_int Tryz.underlying3 e1;obtain ⟨z2,k2,rfl,_⟩ := DataW.trod_int Tryz.underlying3 e2
  match c3,hl with
  | [a,b,c],_ =>
   simp at k0 k1 k2 g0 g1 g2;subst k0 k1 k2 g0 g1 g2
   rfl
 unfold World.var? at hvar;rw [hg] at hvar;simp only [Option.bind_some] at hvar;split at hvar
 ·rename_i c tt fr hh
  obtain rfl := Option.some.inj hvar;have hc : c = lookCells := by unfold lookCells;rw [← hcs]
  exact ⟨tt,fr,by rw [hh,hc]⟩
 ·cases hvar
end Stl
end Go.Proofs.YtooobiigijphkaaGreatDoor
