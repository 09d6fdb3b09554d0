/- Parts of the proof, shortened by a program. -/
import Derived.Test.YtooobiigijphkaaGreatDoorProg
import Derived.Shelf.Unicode.DecodeSlow
import Derived.Test.YtooobiigijphkaaGreatDoorRows
import Derived.WalkKit
import Derived.ProofKit
import Derived.OpenShut
import Derived.Deep.LoopGhost
import Derived.Deep.Draws
import Derived.Laws.Rows
import Derived.Laws.Tables
import Derived.Laws.CopyOwn
import Derived.Laws.OwnMore
import Derived.WalkSmall
import Derived.Maps.AppendAt
import Derived.Deep.MidRow
import Derived.Deep.RegionHeld3
import Derived.Deep.CutRange
import Derived.Laws.IdiomStrings
import Derived.BigQuiet
import Derived.Test.YtooobiigijphkaaGreatDoorPartD
import Derived.Lib.LaidU8
import Derived.Test.YtooobiigijphkaaGreatDoorPartG
import Derived.Test.YtooobiigijphkaaGreatDoorPartF
set_option maxHeartbeats 4000000
open Nat renaming le_refl → qd
open List renaming replicate → qe
open Go renaming heap_alloc_new → qf
open Go.RowKit.Below renaming refl → qr
open Go.Proofs.Tryz renaming prog → qP
namespace Go.Proofs.YtooobiigijphkaaGreatDoor
set_option linter.unusedVariables false
set_option linter.unusedSimpArgs false
set_option maxRecDepth 100000
namespace Prs
def nt : ByteArray := ⟨#[]⟩
def one (x : UInt8) : ByteArray := ⟨#[x]⟩
structure St where
 at' : Int
 mark : Int
 mid : ByteArray
 ps : List Int
 txt : ByteArray
 left : ByteArray
 late : Bool
structure Ev where
 kind : Int
 r : Int
 fin : Int
 mark : Int
 mid : ByteArray
 ps : List Int
 txt : ByteArray
def bare (a : Int) : St := ⟨a,0,nt,[],nt,nt,false⟩
def evP (r : Int) : Ev := ⟨1,r,0,0,nt,[],nt⟩
def evC (r : Int) : Ev := ⟨2,r,0,0,nt,[],nt⟩
def qi8 (x : UInt8) : Bool := decide (x.toNat < 32) || decide (x.toNat = 127)
def Zx (x : UInt8) : Bool := decide (32 ≤ x.toNat) && decide (x.toNat ≤ 47)
def Ja (x : UInt8) : Bool := decide (48 ≤ x.toNat) && decide (x.toNat ≤ 57)
def Xa (x : Int) : Bool := decide (60 ≤ x) && decide (x ≤ 63)
def qsl (n x0 x1 x2 : Nat) : Bool :=
 if Lib.firstT x0 % 8 ≤ n then true
 else if 1 < n ∧ (x1 < Lib.accLo (Lib.firstT x0 / 16) ∨ Lib.accHi (Lib.firstT x0 / 16) < x1) then true
 else decide (2 < n ∧ (x2 < 128 ∨ 191 < x2))
def full (s : ByteArray) : Bool := if s.size = 0 then false else qsl s.size (s.get! 0).toNat (s.get! 1).toNat (s.get! 2).toNat
def drain : Nat → ByteArray → List Ev × ByteArray
 | 0,s => ([],s)
 | n + 1,s => if full s then ((evP (Lib.decodeGo s).1) :: (drain n (s.extract (Lib.decodeGo s).2 s.size)).1,(drain n (s.extract (Lib.decodeGo s).2 s.size)).2) else ([],s)
def G8 (s : St) (x : UInt8) : St × List Ev := ({ s with left := (drain (s.left ++ one x).size (s.left ++ one x)).2 },(drain (s.left ++ one x).size (s.left ++ one x)).1)
def control (s : St) (x : UInt8) : St × List Ev :=
 if x.toNat = 27 then (bare 1,qe s.left.size (evP 65533))
 else if x.toNat = 24 ∨ x.toNat = 26 then (bare 0,qe s.left.size (evP 65533))
 else if x.toNat = 127 then ({ s with left := nt },qe s.left.size (evP 65533))
 else ({ s with left := nt },qe s.left.size (evP 65533) ++ [evC x.toNat])
def J9 (x : UInt8) : St × List Ev :=
 if x.toNat = 91 then (bare 3,[])
 else if x.toNat = 93 then (bare 4,[])
 else if Zx x then ({ bare 2 with mid := one x },[])
 else if x.toNat < 128 then (bare 0,[⟨3,0,x.toNat,0,nt,[],nt⟩])
 else (bare 0,[])
def Y9 (s : St) (x : UInt8) : St × List Ev :=
 if Zx x = true ∧ s.mid.size < 2 then ({ s with mid := s.mid ++ one x },[])
 else if Zx x = false ∧ x.toNat < 128 then (bare 0,[⟨3,0,x.toNat,0,s.mid,[],nt⟩])
 else (bare 0,[])
def begun (l : List Int) : List Int := if l = [] then [-1] else l
def digit (l : List Int) (x : UInt8) : List Int := l.set (l.length - 1) (min (max (l.getD (l.length - 1) 0) 0 * 10 + ((x.toNat : Int) - 48)) 9999)
def Kn (s : St) (x : UInt8) : St :=
 if Ja x then { s with ps := digit (begun s.ps) x }
 else if (begun s.ps).length < 16 then { s with ps := begun s.ps ++ [-1] }
 else bare 5
def J2 (s : St) (x : UInt8) : St × List Ev :=
 if (Ja x = true ∨ x.toNat = 59) ∧ s.mid.size = 0 then (Kn s x,[])
 else if Xa x.toNat = true ∧ s.mark = 0 ∧ s.ps = [] ∧ s.mid.size = 0 then ({ s with mark := x.toNat },[])
 else if Zx x = true ∧ s.mid.size < 2 then ({ s with mid := s.mid ++ one x },[])
 else if 128 ≤ x.toNat then (bare 0,[])
 else if 64 ≤ x.toNat then (bare 0,[⟨4,0,x.toNat,s.mark,s.mid,s.ps,nt⟩])
 else (bare 5,[])
def Yk (s : St) (x : UInt8) : St × List Ev :=
 if s.late = true ∨ x.toNat = 7 then (bare 0,[⟨5,0,0,0,nt,[],s.txt⟩])
 else if x.toNat = 27 then ({ s with late := true },[])
 else if x.toNat = 24 ∨ x.toNat = 26 then (bare 0,[])
 else if 32 ≤ x.toNat ∧ s.txt.size < 64 then ({ s with txt := s.txt ++ one x },[])
 else (s,[])
def Us (s : St) (x : UInt8) : St × List Ev := if 64 ≤ x.toNat then (bare 0,[]) else (s,[])
def acts (s : St) (x : UInt8) : St × List Ev :=
 if s.at' = 0 then G8 s x else if s.at' = 1 then J9 x else if s.at' = 2 then Y9 s x else if s.at' = 3 then J2 s x else if s.at' = 4 then Yk s x else Us s x
def woken (s : St) (x : UInt8) : St := if s.late = true ∧ x.toNat ≠ 92 then bare 1 else s
def take (s : St) (x : UInt8) : St × List Ev :=
 if (woken s x).at' ≠ 4 ∧ qi8 x = true then control (woken s x) x else acts (woken s x) x
def feed (s : St) : List UInt8 → St × List Ev
 | [] => (s,[])
 | x :: l => ((feed (take s x).1 l).1,(take s x).2 ++ (feed (take s x).1 l).2)
theorem qea (s : St) (a b : List UInt8) : feed s (a ++ b) = ((feed (feed s a).1 b).1,(feed s a).2 ++ (feed (feed s a).1 b).2) := by
 induction a generalizing s with
 | nil => simp [feed]
 | cons x a ih => simp [feed,ih,List.append_assoc]
theorem qud (s : St) (a : List UInt8) (x : UInt8) : feed s (a ++ [x]) = ((take (feed s a).1 x).1,(feed s a).2 ++ (take (feed s a).1 x).2) := by
 rw [qea];simp [feed]
end Prs
abbrev sAq (s : Prs.St) (v : Value) : Array Value := #[.int .i64 s.at',.int .u8 s.mark,.string s.mid,v,.string s.txt,.string s.left,.bool s.late]
abbrev zSq : Array Value := #[.int .i64 0,.int .u8 0,.string ⟨#[]⟩,.slice none 0 0,.string ⟨#[]⟩,.string ⟨#[]⟩,.bool false]
abbrev zNq : Value := .slice none 0 0
open Go.ChangeShapes Go.WideShapes Go.ChangeAt Go.RowKit
namespace Prs
def qvr (T : Nat) : Value := .func (.func 27) #[] #[.pointer (some ⟨T,0,none⟩)]
def Yw (s : St) (pv : Value) (T : Nat) : Array Value := #[.int .i64 s.at',.int .u8 s.mark,.string s.mid,pv,.string s.txt,.string s.left,.bool s.late,qvr T]
def ints (l : List Int) : List Value := l.map (Value.int .i64 ·)
theorem qx8 (l : List Int) : (ints l).length = l.length := by simp [ints]
def Vd (e : Ev) (q : Value) : List Value := [.int .i64 e.kind,.int .i32 e.r,.int .u8 e.fin,.int .u8 e.mark,.string e.mid,q,.string e.txt]
def Fp (l : List (Ev × Value)) : List Value := l.flatMap fun p => Vd p.1 p.2
theorem qnt (l : List (Ev × Value)) (e : Ev) (q : Value) : Fp (l ++ [(e,q)]) = Fp l ++ Vd e q := by simp [Fp]
def PsAt (W : World) (base N : Nat) (q : Value) (l : List Int) : Prop := W.ownsRow base 3 1 q l.length (ints l) ∧ ∀ k,q.ownBlock = some k → k < N
structure Rd (w0 : World) (R T : Nat) (s : St) (es : List Ev) (W : World) (N : Nat) (pv tv : Value) (eqs : List (Ev × Value)) : Prop where
 low : Below w0.heap.size w0 W
 rb : w0.heap.size ≤ R
 tb : w0.heap.size ≤ T
 r : W.heap[R]? = some (.cells (Yw s pv T) 74 (0,0))
 t : W.heap[T]? = some (.cells #[tv] 44 (0,0))
 p : W.ownsRow N 3 1 pv s.ps.length (ints s.ps)
 e : W.ownsRow w0.heap.size 71 7 tv es.length (Fp eqs)
 es : eqs.map (·.1) = es
 q : ∀ x,x ∈ eqs → PsAt W w0.heap.size N x.2 x.1.ps
 n0 : w0.heap.size ≤ N
 n1 : N ≤ W.heap.size
def RdE (w0 : World) (R T : Nat) (s : St) (es : List Ev) (W : World) : Prop := ∃ N pv tv eqs,Rd w0 R T s es W N pv tv eqs
theorem Xj {w : World} {p : Nat} {o : Obj} (h : w.heap[p]? = some o) : p < w.heap.size := (Array.getElem?_eq_some_iff.1 h).1
theorem qap {w : World} {base : Nat} {e e' : TypeId} {size : Nat} {v : Value} {n : Nat} {xs : List Value} (h : w.ownsRow base e size v n xs) {g : Nat} {A : Array Value} (hg : w.heap[g]? = some (.cells A e' (0,0))) (hne : e ≠ e') : v.ownBlock ≠ some g := by
 obtain ⟨_,h | ⟨q,cap,cur,rfl,_,hq,_⟩⟩ := h
 ·rw [h.1];simp [Value.ownBlock]
 ·intro e
  simp only [Value.ownBlock,Option.some.injEq] at e;subst e;rw [hq] at hg;injection hg with hg
  injection hg with _ hg
  exact hne hg
theorem Xz {w : World} {base : Nat} {e : TypeId} {size : Nat} {v : Value} {n : Nat} {xs : List Value} (h : w.ownsRow base e size v n xs) {g : Nat} (hg : v.ownBlock = some g) : ∃ A,w.heap[g]? = some (.cells A e (0,0)) := by
 obtain ⟨_,h | ⟨q,cap,cur,rfl,_,hq,_⟩⟩ := h
 ·rw [h.1] at hg;simp [Value.ownBlock] at hg
 ·simp only [Value.ownBlock, Option.some.injEq] at hg
  subst hg;exact ⟨_,hq⟩
theorem Jf {w w' : World} {base : Nat} {e : TypeId} {size : Nat} {v : Value} {n : Nat} {xs : List Value} (h : w.ownsRow base e size v n xs) (hk : ∀ g,v.ownBlock = some g → w'.heap[g]? = w.heap[g]?) : w'.ownsRow base e size v n xs := by
 refine ⟨h.1,?_⟩
 rcases h.2 with h2 | ⟨g,cap,cur,hv,hg,hh,r⟩
 ·exact .inl h2
 ·exact .inr ⟨g,cap,cur,hv,hg,by rw [hk g (by rw [hv];rfl)];exact hh,r⟩
theorem Rd.turn {w0 : World} {R T : Nat} {s s' : St} {es : List Ev} {W W' : World} {N : Nat} {pv pv' tv : Value} {eqs : List (Ev × Value)} (h : Rd w0 R T s es W N pv tv eqs) (hl : Below w0.heap.size w0 W')
  (hr : W'.heap[R]? = some (.cells (Yw s' pv' T) 74 (0,0))) (hk : ∀ k,k < W.heap.size → k ≠ R → W'.heap[k]? = W.heap[k]?) (hs : W.heap.size ≤ W'.heap.size) (hp : (pv' = pv ∧ s'.ps = s.ps) ∨ (pv' = .slice none 0 0 ∧ s'.ps = [])) : Rd w0 R T s' es W' N pv' tv eqs := by
 have hRT : R ≠ T := by
  intro e;have h1 := h.r;rw [e,h.t] at h1;simp at h1
 have ne : ∀ {base : Nat} {e : TypeId} {size : Nat} {v : Value} {n : Nat} {xs : List Value},W.ownsRow base e size v n xs → e ≠ 74 → ∀ g,v.ownBlock = some g → W'.heap[g]? = W.heap[g]? := fun ho hne g hg => by
  obtain ⟨A,hA⟩ := Xz ho hg;refine hk g (Xj hA) fun e => ?_
  rw [e,h.r] at hA;injection hA with hA
  injection hA with _ hA
  exact hne hA.symm
 refine ⟨hl,h.rb,h.tb,hr,?_,?_,Jf h.e (ne h.e (by decide)),h.es,fun x hx => ⟨Jf (h.q x hx).1 (ne (h.q x hx).1 (by decide)),(h.q x hx).2⟩,h.n0,by have := h.n1;omega⟩
 ·rw [hk T (Xj h.t) (Ne.symm hRT)]
  exact h.t
 ·rcases hp with ⟨rfl, h2⟩ | ⟨rfl, h2⟩
  ·rw [h2]
   exact Jf h.p (ne h.p (by decide))
  ·rw [h2]
   exact World.ownsRow_nil _ _ _ _
theorem Rd.below {w0 : World} {R T : Nat} {s : St} {es : List Ev} {W W' : World} {N : Nat} {pv tv : Value} {eqs : List (Ev × Value)} (h : Rd w0 R T s es W N pv tv eqs) (hb : Below W.heap.size W W') : Rd w0 R T s es W' N pv tv eqs :=
 h.turn (h.low.trans (hb.mono h.low.size)) (by rw [hb.block _ (Xj h.r)];exact h.r) (fun k hk _ => hb.block k hk) hb.size (.inl ⟨rfl,rfl⟩)
theorem Rd.raise {w0 : World} {R T : Nat} {s : St} {es : List Ev} {W : World} {N : Nat} {tv : Value} {eqs : List (Ev × Value)} (h : Rd w0 R T s es W N (.slice none 0 0) tv eqs) : Rd w0 R T s es W W.heap.size (.slice none 0 0) tv eqs := by
 refine ⟨h.low,h.rb,h.tb,h.r,h.t,?_,h.e,h.es,fun x hx => ⟨(h.q x hx).1,fun k hk => Nat.lt_of_lt_of_le ((h.q x hx).2 k hk) h.n1⟩,h.low.size,qd _⟩
 have := h.p;refine ⟨this.1,?_⟩
 rcases this.2 with h2 | ⟨g,cap,cur,hv,_⟩
 ·exact .inl h2
 ·simp at hv
theorem qak {W : World} {R : Nat} {a b c d e f g h : Value} {t : TypeId} (hR : W.heap[R]? = some (.cells #[a,b,c,d,e,f,g,h] t (0,0))) : W.cell? ⟨R,0,none⟩ = some a ∧ W.cell? ⟨R,1,none⟩ = some b ∧ W.cell? ⟨R,2,none⟩ = some c ∧ W.cell? ⟨R,3,none⟩ = some d ∧ W.cell? ⟨R,4,none⟩ = some e ∧ W.cell? ⟨R,5,none⟩ = some f ∧ W.cell? ⟨R,6,none⟩ = some g ∧ W.cell? ⟨R,7,none⟩ = some h ∧ ∀ i,W.frozen? ⟨R,i,none⟩ = false := by
 refine ⟨?_,?_,?_,?_,?_,?_,?_,?_,fun i => ?_⟩
 all_goals first | (unfold World.cell?;rw [hR];rfl) | (unfold World.frozen?;rw [hR];simp)
theorem qwx (L : List Value) (o : Nat) (v : Value) (h : o < L.length) : (L.set o v).take (o + 1) = L.take o ++ [v] := by
 rw [List.set_eq_take_append_cons_drop,if_pos h,List.take_append,List.length_take,Nat.min_eq_left (by omega),Nat.add_sub_cancel_left,List.take_of_length_le (by rw [List.length_take];omega)]
 rfl
theorem qxp (L : List Value) (o k : Nat) (v : Value) (h : o < k) : (L.set o v).drop k = L.drop k := by
 rw [List.drop_set,if_pos h]
theorem Uq (g : Nat) (t : TypeId) : ∀ (vs : List Value) (o : Nat) (w : World) (L : List Value), w.heap[g]? = some (.cells L.toArray t (0, 0)) → o + vs.length ≤ L.length → (w.setCells g o vs).heap[g]? = some (.cells (L.take o ++ (vs ++ L.drop (o + vs.length))).toArray t (0, 0))
 | [],o,w,L,h,_ => by
  show w.heap[g]? = _
  rw [h];simp
 | v :: r,o,w,L,h,hl => by
  rw [List.length_cons] at hl;have h1 := heap_setCell_same w g o _ t v h;have h2 := Uq g t r (o + 1) (w.setCell ⟨g,o,none⟩ v) (L.set o v) (by rw [h1];simp) (by rw [List.length_set];omega)
  show ((w.setCell ⟨g,o,none⟩ v).setCells g (o + 1) r).heap[g]? = _
  rw [h2,qwx L o v (by omega),qxp L o _ v (by omega),List.append_assoc,List.length_cons,show o + 1 + r.length = o + (r.length + 1) by omega]
  rfl
theorem Zv (g k : Nat) (hne : k ≠ g) : ∀ (vs : List Value) (o : Nat) (w : World), (w.setCells g o vs).heap[k]? = w.heap[k]?
 | [],_,_ => rfl
 | v :: r,o,w => by
  show ((w.setCell ⟨g,o,none⟩ v).setCells g (o + 1) r).heap[k]? = _
  rw [Zv g k hne r (o + 1) _,heap_setCell_other _ _ _ _ hne]
theorem size_setCells (g : Nat) : ∀ (vs : List Value) (o : Nat) (w : World), (w.setCells g o vs).heap.size = w.heap.size
 | [],_,_ => rfl
 | v :: r,o,w => by
  show ((w.setCell ⟨g,o,none⟩ v).setCells g (o + 1) r).heap.size = _
  rw [size_setCells g r (o + 1) _];simp
theorem Zr {B g : Nat} {a : World} (hb : B ≤ g) : ∀ (vs : List Value) (o : Nat) (w : World), Below B a w → Below B a (w.setCells g o vs)
 | [],_,_,h => h
 | v :: r,o,_,h => Zr hb r (o + 1) _ (h.setCell hb v)
theorem q1i {W : World} {R : Nat} {a b c d e f g h : Value} {t : TypeId} (hR : W.heap[R]? = some (.cells #[a,b,c,d,e,f,g,h] t (0,0))) : W.there R 0 7 := by
 obtain ⟨c0,c1,c2,c3,c4,c5,c6,c7,cf⟩ := qak hR;intro j hj;refine ⟨?_,cf _⟩;rw [Nat.zero_add]
 match j,hj with
 | 0,_ => rw [c0];rfl
 | 1,_ => rw [c1];rfl
 | 2,_ => rw [c2];rfl
 | 3,_ => rw [c3];rfl
 | 4,_ => rw [c4];rfl
 | 5,_ => rw [c5];rfl
 | 6,_ => rw [c6];rfl
theorem cells_of_block {W : World} {g : Nat} {L : List Value} {t : TypeId} (h : W.heap[g]? = some (.cells L.toArray t (0,0))) : ∀ j u,L[j]? = some u → W.cell? ((⟨g,0,none⟩ : Addr).add j) = some u := fun j u hj => by
 rw [Addr.add_mid,Nat.zero_add];unfold World.cell?;rw [h];simpa using hj
theorem cell1 {W : World} {g : Nat} {v : Value} {t : TypeId} (h : W.heap[g]? = some (.cells #[v] t (0,0))) : W.cell? ⟨g,0,none⟩ = some v ∧ W.frozen? ⟨g,0,none⟩ = false := by
 constructor
 ·unfold World.cell?;rw [h];rfl
 ·unfold World.frozen?;rw [h];simp
theorem qcf (w : World) (o0 o1 : Obj) : ((w.alloc o0).alloc o1).heap[w.heap.size + 1]? = some o1 := by
 have s1 : (w.alloc o0).heap.size = w.heap.size + 1 := by simp
 rw [← s1,qf]
theorem Kh (w : World) (o0 o1 : Obj) : Below w.heap.size w ((w.alloc o0).alloc o1) := ((qr _ _).alloc (qd _) _).alloc (by simp) _
theorem qrt : (Tryz.prog.info? 35).map (·.size) = some 7 := by kernel_rfl
theorem qp2 : Tryz.prog.underlying 44 = some (.slice 71) := by kernel_rfl
theorem qqi : (Tryz.prog.info? 71).map (fun i => (i.zero,i.size,i.bytes)) = some (some (.agg #[.int .i64 0,.int .i32 0,.int .u8 0,.int .u8 0,.string ⟨#[]⟩,.slice none 0 0,.string ⟨#[]⟩]),7,72) := by kernel_rfl
def qof (a : Int) : List Value := [.int .i64 a,.int .u8 0,.string ⟨#[]⟩,.slice none 0 0,.string ⟨#[]⟩,.string ⟨#[]⟩,.bool false]
theorem ql1 {ops : Array Oper} {rest : List Oper} {op : Oper} {a : Act} {w : World} {Q : Exit → Act → World → Prop} (hgd : op.guard = none) (x y : Operand) (ho : op.op = .store 35 x y)
  (R : Nat) (n : Int) (hx : a.eval x = .pointer (some ⟨R,0,none⟩)) (hy : a.eval y = .agg #[.int .i64 n,.int .u8 0,.string ⟨#[]⟩,.slice none 0 0,.string ⟨#[]⟩,.string ⟨#[]⟩,.bool false]) (ht : w.there R 0 7)
  (h : ∀ Z,Z = w.setCells R 0 (qof n) → wpList qP ops Q rest (a.put op.dst undef) Z) : wpList qP ops Q (op :: rest) a w :=
 wpList_store_mid hgd 35 x y ho R 0 _ hx hy ht qrt (by simp [Value.oneCell']) (h _ rfl)
theorem Z9 (a : Int) {w0 : World} {R T : Nat} {s : St} {es : List Ev} {W : World} {N : Nat} {pv tv : Value} {eqs : List (Ev × Value)} (h : Rd w0 R T s es W N pv tv eqs) :
  Calls qP 49 #[.pointer (some ⟨R,0,none⟩),.int .i64 a] W fun e W' => e = .returned (.tuple #[]) ∧ W' = W.setCells R 0 (qof a) ∧ Rd w0 R T (bare a) es W' N (.slice none 0 0) tv eqs := by
 have hr := h.r;unfold Yw at hr;have ht := q1i hr;have HR := h;clear h;go_enter Tryz.func49,Tryz.ntmps49;go_wp2_with (refine ql1 rfl (.tmp 8) (.tmp 6) rfl R a rfl rfl ht ?_;intro Z hZ);go_end0;subst hZ;refine ⟨rfl,rfl,HR.turn (Zr HR.rb _ _ _ HR.low) ?_ (fun k _ hk => Zv R k hk _ _ _) (by rw [size_setCells];exact qd _) (.inr ⟨rfl,rfl⟩)⟩
 exact Uq R 74 (qof a) 0 W _ hr (by simp [qof])
theorem U7 {w : World} {base : Nat} {e : TypeId} {size : Nat} {v : Value} {n : Nat} {xs : List Value} (h : w.ownsRow base e size v n xs) (hn : 0 < n) : ∃ g cap,v = .slice (some ⟨g,0,none⟩) n cap := by
 obtain ⟨_,h | ⟨q,cap,cur,rfl,_⟩⟩ := h
 ·omega
 ·exact ⟨q,cap,rfl⟩
theorem Rd.told {w0 : World} {R T : Nat} {s : St} {es : List Ev} {W W3 : World} {N : Nat} {pv tv v3 : Value} {eqs : List (Ev × Value)} (h : Rd w0 R T s es W N pv tv eqs) (ev : Ev) (q : Value) (hq : PsAt W w0.heap.size N q ev.ps) {o o' : Obj}
  (hown3 : W3.ownsRow w0.heap.size 71 7 v3 (es.length + 1) (Fp eqs ++ Vd ev q)) (hgrow : ((W.alloc o).alloc o').grownBy W3 tv.ownBlock) : Rd w0 R T s (es ++ [ev]) (W3.setCell ⟨T,0,none⟩ v3) N pv v3 (eqs ++ [(ev,q)]) := by
 have hb := Kh W o o';have h2 := h.below hb;generalize (W.alloc o).alloc o' = W2 at hb h2 hgrow;have hq2 : W2.ownsRow w0.heap.size 3 1 q ev.ps.length (ints ev.ps) := Jf hq.1 fun g hg => by
  obtain ⟨A,hA⟩ := Xz hq.1 hg;exact hb.block g (Xj hA)
 have hRT : R ≠ T := by
  intro e;have h1 := h.r;rw [e,h.t] at h1;simp at h1
 have hW3 : ∀ {e : TypeId} {A : Array Value} {k : Nat},W2.heap[k]? = some (.cells A e (0,0)) → 71 ≠ e → e ≠ 44 → (W3.setCell ⟨T,0,none⟩ v3).heap[k]? = some (.cells A e (0,0)) := fun {e A k} hk hne hT => by
  rw [heap_setCell_other _ _ _ _ (by
   intro e1;simp only at e1;rw [e1,h2.t] at hk;injection hk with hk
   injection hk with _ hk
   exact hT hk.symm),hgrow.block k (Xj hk) (fun e1 => qap h2.e hk hne e1.symm)]
  exact hk
 have hps : ∀ {base : Nat} {v : Value} {n : Nat} {xs : List Value},W2.ownsRow base 3 1 v n xs → (W3.setCell ⟨T,0,none⟩ v3).ownsRow base 3 1 v n xs := fun ho => Jf ho fun g hg => by
  obtain ⟨A,hA⟩ := Xz ho hg;rw [hW3 hA (by decide) (by decide),hA]
 have hT3 : W3.heap[T]? = some (.cells #[tv] 44 (0,0)) := (hgrow.block T (Xj h2.t) (fun e => qap h2.e h2.t (by decide) e.symm)).trans h2.t
 refine ⟨?_,h.rb,h.tb,hW3 h2.r (by decide) (by decide),?_,hps h2.p,?_,by rw [List.map_append,h.es];rfl,?_,h.n0,?_⟩
 ·exact (h2.low.grown hgrow h2.low.size (fun k hk => (h2.e.lt k hk).1)).setCell h.tb _
 ·have := heap_setCell_same W3 T 0 _ _ v3 hT3
  simpa using this
 ·rw [qnt, List.length_append, List.length_singleton]
  refine Jf hown3 fun g hg => ?_
  rw [heap_setCell_other];intro e1;simp only at e1;obtain ⟨A,hA⟩ := Xz hown3 hg;rw [e1,hT3] at hA;injection hA with hA
  injection hA with _ hA
  exact absurd hA (by decide)
 ·intro x hx
  rw [List.mem_append,List.mem_singleton] at hx
  rcases hx with hx | rfl
  ·exact ⟨hps (h2.q x hx).1,(h2.q x hx).2⟩
  ·exact ⟨hps hq2,hq.2⟩
 ·have := h2.n1
  have h5 := hgrow.size;simp;omega
theorem qfh {w0 : World} {R T : Nat} {s : St} {es : List Ev} {W : World} {N : Nat} {pv tv : Value} {eqs : List (Ev × Value)} (h : Rd w0 R T s es W N pv tv eqs) (ev : Ev) (q : Value) (hq : PsAt W w0.heap.size N q ev.ps) (h1 : q.oneCell' = true) (hn : es.length ≤ 1000000) :
  Calls qP 27 #[.agg #[.int .i64 ev.kind,.int .i32 ev.r,.int .u8 ev.fin,.int .u8 ev.mark,.string ev.mid,q,.string ev.txt],.pointer (some ⟨T,0,none⟩)] W fun e W' => e = .returned (.tuple #[]) ∧ ∃ tv',Rd w0 R T s (es ++ [ev]) W' N pv tv' (eqs ++ [(ev,q)]) := by
 obtain ⟨i0,hi,hzz⟩ := Option.map_eq_some_iff.1 qqi;simp only [Prod.mk.injEq] at hzz;obtain ⟨hz0,hz1,hz2⟩ := hzz;have HR : Hid (Rd w0 R T s es W N pv tv eqs) := h;have HQ : Hid (PsAt W w0.heap.size N q ev.ps) := hq;obtain ⟨hT0,hTf⟩ := cell1 h.t;have hTl := Xj h.t;have hown := h.e;have hsz := h.low.size;have HN : Hid (tv.ownBlock ≠ some T) := qap h.e h.t (by decide)
 have HT : Hid (W.heap[T]? = _) := h.t;clear h hq;go_enter Tryz.func27,Tryz.ntmps27
 go_wp2_with (at_builtin; refine wpList_append_own _ rfl _ _ 44 rfl w0.heap.size 71 i0 (.agg #[.int .i64 0, .int .i32 0, .int .u8 0, .int .u8 0, .string ⟨#[]⟩, .slice none 0 0, .string ⟨#[]⟩]) 7 72 qp2 hi hz0 hz1 hz2 rfl (by decide) _ _ _ rfl ((hown.alloc _).alloc _) ⟨W.heap.size + 1, 0, none⟩ 1 1 (Vd ev q) rfl rfl (cells_of_block (qcf W _ _)) (by intro u hu; simp [Vd] at hu; rcases hu with rfl | rfl | rfl | rfl | rfl | rfl | rfl <;> first | rfl | exact h1) (by unfold maxLen; omega) (by omega) (by simp; omega) ?_
              intro v3 W3 hown3 hgrow hnil;obtain ⟨g3,c3,rfl⟩ := U7 hown3 (by omega)
              have hT3 : W3.heap[T]? = some (.cells #[tv] 44 (0,0)) := (hgrow.block T (by simp;omega) (fun e => HN.out e.symm)).trans ((Kh W _ _).block T hTl |>.trans HT.out)
              obtain ⟨hT0',hTf'⟩ := cell1 hT3)
 go_end0;exact ⟨rfl,_,HR.out.told ev q HQ.out hown3 hgrow⟩
theorem q06 (W : World) (base N : Nat) : PsAt W base N (.slice none 0 0) [] := ⟨World.ownsRow_nil _ _ _ _,fun k hk => by simp [Value.ownBlock] at hk⟩
theorem Fb (c : Int) {w0 : World} {R T : Nat} {s : St} {es : List Ev} {W : World} {N : Nat} {pv tv : Value} {eqs : List (Ev × Value)} (h : Rd w0 R T s es W N pv tv eqs) (hn : es.length ≤ 1000000) :
  Calls qP 80 #[.pointer (some ⟨R,0,none⟩),.int .i32 c] W fun e W' => e = .returned (.tuple #[]) ∧ ∃ tv' eqs',Rd w0 R T s (es ++ [evP c]) W' N pv tv' eqs' := by
 have hr := h.r;unfold Yw qvr at hr;have HC := qfh h (evP c) (.slice none 0 0) (q06 _ _ _) rfl hn;obtain ⟨c0,c1,c2,c3,c4,c5,c6,c7,cf⟩ := qak hr;clear hr h;go_enter Tryz.func80,Tryz.ntmps80;go_wp2_with fail;refine HC.mono ?_;rintro e W1 ⟨rfl,tv',h1⟩;go_wp2_with fail;go_end0;exact ⟨rfl,tv',_,h1⟩
theorem qao (W : World) (o : Obj) {k : Nat} {x : Obj} (h : W.heap[k]? = some x) : (W.alloc o).heap[k]? = some x := by
 rw [Below.heap_alloc _ _ _ (Xj h)];exact h
theorem Z8 {W : World} {R : Nat} {a b c d e f g : Value} {t : TypeId} (hR : W.heap[R]? = some (.cells #[a,b,c,d,e,f,g] t (0,0))) : W.cell? ⟨R,0,none⟩ = some a ∧ W.cell? ⟨R,1,none⟩ = some b ∧ W.cell? ⟨R,2,none⟩ = some c ∧ W.cell? ⟨R,3,none⟩ = some d ∧ W.cell? ⟨R,4,none⟩ = some e ∧ W.cell? ⟨R,5,none⟩ = some f ∧ W.cell? ⟨R,6,none⟩ = some g ∧ ∀ i,W.frozen? ⟨R,i,none⟩ = false := by
 refine ⟨?_,?_,?_,?_,?_,?_,?_,fun i => ?_⟩
 all_goals first | (unfold World.cell?;rw [hR];rfl) | (unfold World.frozen?;rw [hR];simp)
theorem qb9 {w0 : World} {R T : Nat} {s : St} {es : List Ev} {W : World} {N : Nat} {pv tv : Value} {eqs : List (Ev × Value)} (h : Rd w0 R T s es W N pv tv eqs) (ev : Ev) (q : Value) (hq : W.ownsRow w0.heap.size 3 1 q ev.ps.length (ints ev.ps)) (h1 : q.oneCell' = true) (hn : es.length ≤ 1000000) :
  Calls qP 122 #[.pointer (some ⟨R,0,none⟩),.agg #[.int .i64 ev.kind,.int .i32 ev.r,.int .u8 ev.fin,.int .u8 ev.mark,.string ev.mid,q,.string ev.txt]] W fun e W' => e = .returned (.tuple #[]) ∧ RdE w0 R T (bare 0) (es ++ [ev]) W' := by
 have kb : Below W.heap.size W (W.alloc (.cells #[.int .i64 ev.kind,.int .i32 ev.r,.int .u8 ev.fin,.int .u8 ev.mark,.string ev.mid,q,.string ev.txt] 71)) := (qr _ _).alloc (qd _) _;have h2 := h.below kb;have hx := qf W (.cells #[.int .i64 ev.kind,.int .i32 ev.r,.int .u8 ev.fin,.int .u8 ev.mark,.string ev.mid,q,.string ev.txt] 71);have HE := Z9 0 h2;have hq2 : (W.alloc (.cells #[.int .i64 ev.kind,.int .i32 ev.r,.int .u8 ev.fin,.int .u8 ev.mark,.string ev.mid,q,.string ev.txt] 71)).ownsRow w0.heap.size 3 1 q ev.ps.length (ints ev.ps) := hq.alloc _;have hne : ∀ g,q.ownBlock = some g → g ≠ R := fun g hg e => by
  obtain ⟨A,hA⟩ := Xz hq hg;rw [e,h.r] at hA;injection hA with hA
  injection hA with _ hA
  exact absurd hA (by decide)
 have hRlt := Xj h.r;clear h h2 kb hq;generalize hW0 : W.alloc (.cells #[.int .i64 ev.kind,.int .i32 ev.r,.int .u8 ev.fin,.int .u8 ev.mark,.string ev.mid,q,.string ev.txt] 71) = W0 at hx HE hq2;have HW0 : Hid (_ = W0) := hW0;clear hW0;have HE' : Hid (Calls qP 49 #[.pointer (some ⟨R,0,none⟩),.int .i64 0] W0 fun e W' => e = .returned (.tuple #[]) ∧ W' = W0.setCells R 0 (qof 0) ∧ Rd w0 R T (bare 0) es W' N (.slice none 0 0) tv eqs) := HE
 clear HE;go_enter Tryz.func122,Tryz.ntmps122;go_wp2_with fail;rw [HW0.out];refine HE'.out.mono ?_;rintro e W1 ⟨rfl,hW1,hr1⟩;have hx1 : W1.heap[W.heap.size]? = some (.cells #[.int .i64 ev.kind,.int .i32 ev.r,.int .u8 ev.fin,.int .u8 ev.mark,.string ev.mid,q,.string ev.txt] 71 (0,0)) := by
  rw [hW1,Zv R _ (by omega)]
  exact hx
 have hq1 : PsAt W1 w0.heap.size W1.heap.size q ev.ps := by
  have ho : W1.ownsRow w0.heap.size 3 1 q ev.ps.length (ints ev.ps) := by
   rw [hW1];exact Jf hq2 fun g hg => Zv R g (hne g hg) _ _ _
  exact ⟨ho,fun k hk => (ho.lt k hk).2⟩
 have hr2 := hr1.raise;have kd : Below W1.heap.size W1 W1.drew := (qr _ _).drew;have HTL := qfh (hr2.below kd) ev q hq1 h1 hn;have HTL' : Hid (Calls qP 27 #[.agg #[.int .i64 ev.kind,.int .i32 ev.r,.int .u8 ev.fin,.int .u8 ev.mark,.string ev.mid,q,.string ev.txt],.pointer (some ⟨T,0,none⟩)] W1.drew fun e W' => e = .returned (.tuple #[]) ∧ ∃ tv',Rd w0 R T (bare 0) (es ++ [ev]) W' W1.heap.size (.slice none 0 0) tv' (eqs ++ [(ev,q)])) := HTL
 have hrr := hr1.r;unfold Yw qvr at hrr;obtain ⟨-,-,-,-,-,-,-,c7,-⟩ := qak hrr;obtain ⟨d0,d1,d2,d3,d4,d5,d6,-⟩ := Z8 hx1;clear HTL hrr hr1 hr2 hq1 hq2 hx1 hW1 hne HE' HW0;go_wp2_with fail;go_region_with (go_at_call 27;refine HTL'.out.mono ?_;rintro e W2 ⟨rfl,tv',hf⟩)
 all_goals go_wp2_with fail
 all_goals go_end0
 all_goals exact ⟨rfl,_,_,tv',_,hf⟩
theorem Qh {a b : Bool} (h : a = b) : Ending.returned (.bool a) = Ending.returned (.bool b) := by rw [h]
theorem Xl (x : UInt8) (w : World) : Calls qP 50 #[.int .u8 (x.toNat : Int)] w fun e w' => e = .returned (.bool (qi8 x)) ∧ w' = w := by
 go_enter Tryz.func50,Tryz.ntmps50;go_wp2
 all_goals (go_ret;exact ⟨Qh (by rw [Bool.eq_iff_iff];simp [qi8];try omega),rfl⟩)
theorem Ga (x : UInt8) (w : World) : Calls qP 75 #[.int .u8 (x.toNat : Int)] w fun e w' => e = .returned (.bool (Zx x)) ∧ w' = w := by
 go_enter Tryz.func75,Tryz.ntmps75;go_wp2
 all_goals (go_ret;exact ⟨Qh (by rw [Bool.eq_iff_iff];simp [Zx];try omega),rfl⟩)
theorem Ui (x : UInt8) (w : World) : Calls qP 123 #[.int .u8 (x.toNat : Int)] w fun e w' => e = .returned (.bool (Ja x)) ∧ w' = w := by
 go_enter Tryz.func123,Tryz.ntmps123;go_wp2
 all_goals (go_ret;exact ⟨Qh (by rw [Bool.eq_iff_iff];simp [Ja];try omega),rfl⟩)
theorem Gw (x : Int) (w : World) : Calls qP 73 #[.int .u8 x] w fun e w' => e = .returned (.bool (Xa x)) ∧ w' = w := by
 go_enter Tryz.func73,Tryz.ntmps73;go_wp2
 all_goals (go_ret;exact ⟨Qh (by rw [Bool.eq_iff_iff];simp [Xa];try omega),rfl⟩)
theorem qtm : Tryz.prog.underlying 113 = some (.slice 5) := by kernel_rfl
theorem qwm : Tryz.prog.underlying 5 = some (.int .u8) := by kernel_rfl
theorem qq2 : Tryz.prog.underlying 9 = some .string := by kernel_rfl
theorem Gz (x : UInt8) (w : World) : Calls qP 120 #[.int .u8 (x.toNat : Int)] w fun e w' => e = .returned (.string (one x)) ∧ Below w.heap.size w w' := by
 have hc : (convert 113 9 (.slice (some ⟨w.heap.size, 0, none⟩) 1 1)).run qP (w.alloc (.cells #[.int .u8 (x.toNat : Int)] 5)) = .ok (.string (one x)) (w.alloc (.cells #[.int .u8 (x.toNat : Int)] 5)) :=
  run_convert_bytes_back (w.alloc (.cells #[.int .u8 (x.toNat : Int)] 5)) 113 9 5 ⟨w.heap.size, 0, none⟩ 1 [x] qtm qwm qq2 (fun j hj => by
   match j,hj with
   | 0,_ => exact (cell1 (qf w _)).1)
 have kb : Below w.heap.size w (w.alloc (.cells #[.int .u8 (x.toNat : Int)] 5)) := (qr _ _).alloc (qd _) _;go_enter Tryz.func120,Tryz.ntmps120;go_wp2;go_ret;exact ⟨rfl,kb⟩
theorem qq6 (x : UInt8) {w0 : World} {R T : Nat} {s : St} {es : List Ev} {W : World} (h : RdE w0 R T s es W) :
  Calls qP 86 #[.pointer (some ⟨R,0,none⟩),.int .u8 (x.toNat : Int)] W fun e W' => e = .returned (.tuple #[]) ∧ RdE w0 R T (Us s x).1 (es ++ (Us s x).2) W' := by
 obtain ⟨N,pv,tv,eqs,h⟩ := h
 by_cases hx : 64 ≤ x.toNat
 ·have e : Us s x = (bare 0, []) := if_pos hx
  simp only [e,List.append_nil];have hx' : (64 : Int) ≤ (x.toNat : Int) := by omega
  have HE := Z9 0 h;clear h e;go_enter Tryz.func86,Tryz.ntmps86;go_wp2_with fail;refine HE.mono ?_;rintro e W1 ⟨rfl,-,h1⟩;go_wp2_with fail;go_end0;exact ⟨rfl,_,_,_,_,h1⟩
 ·have e : Us s x = (s, []) := if_neg hx
  simp only [e,List.append_nil];have hx' : ¬ (64 : Int) ≤ (x.toNat : Int) := by omega
  have HH : Hid (Rd w0 R T s es W N pv tv eqs) := h;clear h e;go_enter Tryz.func86,Tryz.ntmps86;go_wp2_with fail;go_end0;exact ⟨rfl,_,_,_,_,HH.out⟩
theorem Rd.left {w0 : World} {R T : Nat} {s : St} {es : List Ev} {W : World} {N : Nat} {pv tv : Value} {eqs : List (Ev × Value)} (h : Rd w0 R T s es W N pv tv eqs) (l : ByteArray) : Rd w0 R T { s with left := l } es (W.setCell ⟨R, 5, none⟩ (.string l)) N pv tv eqs :=
 h.turn (h.low.setCell h.rb _) (heap_setCell_same W R 5 _ _ (.string l) h.r) (fun k _ hk => heap_setCell_other _ _ _ _ hk) (by simp) (.inl ⟨rfl,rfl⟩)
theorem Rd.mids {w0 : World} {R T : Nat} {s : St} {es : List Ev} {W : World} {N : Nat} {pv tv : Value} {eqs : List (Ev × Value)} (h : Rd w0 R T s es W N pv tv eqs) (l : ByteArray) : Rd w0 R T { s with mid := l } es (W.setCell ⟨R, 2, none⟩ (.string l)) N pv tv eqs :=
 h.turn (h.low.setCell h.rb _) (heap_setCell_same W R 2 _ _ (.string l) h.r) (fun k _ hk => heap_setCell_other _ _ _ _ hk) (by simp) (.inl ⟨rfl,rfl⟩)
theorem Rd.txts {w0 : World} {R T : Nat} {s : St} {es : List Ev} {W : World} {N : Nat} {pv tv : Value} {eqs : List (Ev × Value)} (h : Rd w0 R T s es W N pv tv eqs) (l : ByteArray) : Rd w0 R T { s with txt := l } es (W.setCell ⟨R, 4, none⟩ (.string l)) N pv tv eqs :=
 h.turn (h.low.setCell h.rb _) (heap_setCell_same W R 4 _ _ (.string l) h.r) (fun k _ hk => heap_setCell_other _ _ _ _ hk) (by simp) (.inl ⟨rfl,rfl⟩)
theorem Rd.q2g {w0 : World} {R T : Nat} {s : St} {es : List Ev} {W : World} {N : Nat} {pv tv : Value} {eqs : List (Ev × Value)} (h : Rd w0 R T s es W N pv tv eqs) (b : Bool) : Rd w0 R T { s with late := b } es (W.setCell ⟨R, 6, none⟩ (.bool b)) N pv tv eqs :=
 h.turn (h.low.setCell h.rb _) (heap_setCell_same W R 6 _ _ (.bool b) h.r) (fun k _ hk => heap_setCell_other _ _ _ _ hk) (by simp) (.inl ⟨rfl,rfl⟩)
theorem Rd.marks {w0 : World} {R T : Nat} {s : St} {es : List Ev} {W : World} {N : Nat} {pv tv : Value} {eqs : List (Ev × Value)} (h : Rd w0 R T s es W N pv tv eqs) (b : Int) : Rd w0 R T { s with mark := b } es (W.setCell ⟨R, 1, none⟩ (.int .u8 b)) N pv tv eqs :=
 h.turn (h.low.setCell h.rb _) (heap_setCell_same W R 1 _ _ (.int .u8 b) h.r) (fun k _ hk => heap_setCell_other _ _ _ _ hk) (by simp) (.inl ⟨rfl,rfl⟩)
theorem Rd.cells {w0 : World} {R T : Nat} {s : St} {es : List Ev} {W : World} {N : Nat} {pv tv : Value} {eqs : List (Ev × Value)} (h : Rd w0 R T s es W N pv tv eqs) : W.cell? ⟨R,0,none⟩ = some (.int .i64 s.at') ∧ W.cell? ⟨R,1,none⟩ = some (.int .u8 s.mark) ∧ W.cell? ⟨R,2,none⟩ = some (.string s.mid) ∧ W.cell? ⟨R,3,none⟩ = some pv ∧ W.cell? ⟨R,4,none⟩ = some (.string s.txt) ∧ W.cell? ⟨R,5,none⟩ = some (.string s.left) ∧ W.cell? ⟨R,6,none⟩ = some (.bool s.late) ∧ W.cell? ⟨R,7,none⟩ = some (.func (.func 27) #[] #[.pointer (some ⟨T,0,none⟩)]) ∧ ∀ i,W.frozen? ⟨R,i,none⟩ = false := qak h.r
theorem qxm (k : Nat) (e : Ev) (es : List Ev) : es ++ qe (k + 1) e = (es ++ qe k e) ++ [e] := by rw [List.replicate_succ',List.append_assoc]
theorem Um (x : UInt8) {w0 : World} {R T : Nat} {s : St} {es : List Ev} {W : World} (h : RdE w0 R T s es W) (hn : es.length + s.left.size ≤ 1000000) :
  Calls qP 51 #[.pointer (some ⟨R,0,none⟩),.int .u8 (x.toNat : Int)] W fun e W' => e = .returned (.tuple #[]) ∧ RdE w0 R T (control s x).1 (es ++ (control s x).2) W' := by
 obtain ⟨N,pv,tv,eqs,h⟩ := h;obtain ⟨c0,c1,c2,c3,c4,c5,c6,c7,cf⟩ := h.cells;have HH : Hid (Rd w0 R T s es W N pv tv eqs) := h;obtain ⟨L,hL⟩ : ∃ L,s.left.size = L := ⟨_,rfl⟩;rw [hL] at hn;have HE : Hid (control s x = if x.toNat = 27 then (bare 1,qe L (evP 65533)) else if x.toNat = 24 ∨ x.toNat = 26 then (bare 0,qe L (evP 65533)) else if x.toNat = 127 then ({ s with left := nt },qe L (evP 65533)) else ({ s with left := nt },qe L (evP 65533) ++ [evC x.toNat])) := by rw [← hL];rfl
 generalize control s x = res at HE ⊢;clear h;go_enter Tryz.func51,Tryz.ntmps51;go_wp2_with fail;go_loopg [10] L (fun q i wr => ∃ (k : Nat) (tv' : Value) (eqs' : List (Ev × Value)),i = .int .i64 (k : Int) ∧ k ≤ L ∧ L - k ≤ q ∧ Rd w0 R T s (es ++ qe k (evP 65533)) wr N pv tv' eqs')
 case atStart => exact ⟨0,tv,eqs,rfl,by omega,by omega,by simpa using HH.out⟩
 case round =>
  obtain ⟨k,tv',eqs',rfl,hk,hq,hR⟩ := hrel;clear c0 c1 c2 c3 c4 c5 c6 c7 cf
  by_cases hlt : k < L
  ·have lt1 : ((k : Int) < (L : Int)) := by omega
   have HP := Fb 65533 hR (by simp;omega)
   clear hR;go_wp2_with fail;refine HP.mono ?_;rintro e W1 ⟨rfl,tv2,eqs2,h1⟩;go_wp2_with fail;go_roundg (L - (k + 1))
   case measure => omega
   case rel => exact ⟨k + 1,tv2,eqs2,rfl,by omega,by omega,by rw [qxm];exact h1⟩
  ·have lt1 : ¬ ((k : Int) < (L : Int)) := by omega
   have hkL : k = L := by omega
   subst hkL;obtain ⟨c0,c1,c2,c3,c4,c5,c6,c7,cf⟩ := hR.cells;have cf5 := cf 5;have hR5 := hR.left nt;have HR5 : Hid (Rd w0 R T { s with left := nt } (es ++ qe k (evP 65533)) (wr.setCell ⟨R,5,none⟩ (.string nt)) N pv tv' eqs') := hR5
   have HN : Hid ((es ++ qe k (evP 65533)).length ≤ 1000000) := by unfold Hid;simp;omega
   obtain ⟨d0,d1,d2,d3,d4,d5,d6,d7,df⟩ := hR5.cells;clear hR hR5 hlt;unfold nt at d0 d1 d2 d3 d4 d5 d6 d7 df
   by_cases x27 : x.toNat = 27
   ·have hx : (x.toNat : Int) = 27 := by omega
    have HX := Z9 1 HR5.out;unfold nt at HX;go_wp2_with fail;refine HX.mono ?_;rintro e W1 ⟨rfl,-,h1⟩;go_wp2_with fail;go_end0;rw [HE.out,if_pos x27];exact ⟨rfl,_,_,_,_,h1⟩
   ·have y27 : ¬ (x.toNat : Int) = 27 := by omega
    by_cases x24 : x.toNat = 24
    ·have hx : (x.toNat : Int) = 24 := by omega
     have HX := Z9 0 HR5.out;unfold nt at HX;go_wp2_with fail;refine HX.mono ?_;rintro e W1 ⟨rfl,-,h1⟩;go_wp2_with fail;go_end0;rw [HE.out,if_neg x27,if_pos (.inl x24)];exact ⟨rfl,_,_,_,_,h1⟩
    ·have y24 : ¬ (x.toNat : Int) = 24 := by omega
     by_cases x26 : x.toNat = 26
     ·have hx : (x.toNat : Int) = 26 := by omega
      have HX := Z9 0 HR5.out;unfold nt at HX;go_wp2_with fail;refine HX.mono ?_;rintro e W1 ⟨rfl,-,h1⟩;go_wp2_with fail;go_end0;rw [HE.out,if_neg x27,if_pos (.inr x26)];exact ⟨rfl,_,_,_,_,h1⟩
     ·have y26 : ¬ (x.toNat : Int) = 26 := by omega
      by_cases x127 : x.toNat = 127
      ·have hx : (x.toNat : Int) = 127 := by omega
       go_wp2_with fail;go_end0;rw [HE.out,if_neg x27,if_neg (by omega),if_pos x127]
       exact ⟨rfl,_,_,_,_,HR5.out⟩
      ·have y127 : ¬ (x.toNat : Int) = 127 := by omega
       have hx8 := x.toNat_lt;have hw : wrap32 (x.toNat : Int) = (x.toNat : Int) := by first | (unfold wrap32;omega) | (simp only [wrap32];omega)
       have HX := qfh HR5.out (evC x.toNat) (.slice none 0 0) (q06 _ _ _) rfl HN.out;unfold nt at HX;go_wp2_with fail;refine HX.mono ?_;rintro e W1 ⟨rfl,tv2,h1⟩;go_wp2_with fail;go_end0;rw [HE.out,if_neg x27,if_neg (by omega),if_neg x127]
       exact ⟨rfl,_,_,_,_,by rw [← List.append_assoc];exact h1⟩
theorem qcj (x : UInt8) {w0 : World} {R T : Nat} {s : St} {es : List Ev} {W : World} (h : RdE w0 R T s es W) (hn : es.length ≤ 1000000) :
  Calls qP 82 #[.pointer (some ⟨R,0,none⟩),.int .u8 (x.toNat : Int)] W fun e W' => e = .returned (.tuple #[]) ∧ RdE w0 R T (J9 x).1 (es ++ (J9 x).2) W' := by
 obtain ⟨N,pv,tv,eqs,h⟩ := h;have HE : Hid (J9 x = if x.toNat = 91 then (bare 3,[]) else if x.toNat = 93 then (bare 4,[]) else if Zx x then ({ bare 2 with mid := one x },[]) else if x.toNat < 128 then (bare 0,[⟨3,0,x.toNat,0,nt,[],nt⟩]) else (bare 0,[])) := rfl
 generalize J9 x = res at HE ⊢
 by_cases x91 : x.toNat = 91
 ·have hx : (x.toNat : Int) = 91 := by omega
  have HX := Z9 3 h;clear h;go_enter Tryz.func82,Tryz.ntmps82;go_wp2_with fail;refine HX.mono ?_;rintro e W1 ⟨rfl,-,h1⟩;go_wp2_with fail;go_end0;rw [HE.out,if_pos x91];exact ⟨rfl,_,_,_,_,by rw [List.append_nil];exact h1⟩
 ·have y91 : ¬ (x.toNat : Int) = 91 := by omega
  by_cases x93 : x.toNat = 93
  ·have hx : (x.toNat : Int) = 93 := by omega
   have HX := Z9 4 h;clear h;go_enter Tryz.func82,Tryz.ntmps82;go_wp2_with fail;refine HX.mono ?_;rintro e W1 ⟨rfl,-,h1⟩;go_wp2_with fail;go_end0;rw [HE.out,if_neg x91,if_pos x93];exact ⟨rfl,_,_,_,_,by rw [List.append_nil];exact h1⟩
  ·have y93 : ¬ (x.toNat : Int) = 93 := by omega
   have HM := Ga x W
   cases hm : Zx x with
   | true =>
    rw [hm] at HM;have HX := Z9 2 h;clear h;go_enter Tryz.func82,Tryz.ntmps82;go_wp2_with fail;refine HM.mono ?_;rintro e _ ⟨rfl,rfl⟩;go_wp2_with fail;refine HX.mono ?_;rintro e W1 ⟨rfl,-,h1⟩;go_wp2_with fail;refine (Gz x W1).mono ?_;rintro e W2 ⟨rfl,b2⟩;have h2 := h1.below b2;obtain ⟨c0,c1,c2,c3,c4,c5,c6,c7,cf⟩ := h2.cells;have cf2 := cf 2;have HF := h2.mids (one x);clear h1 h2;go_wp2_with fail;go_end0;rw [HE.out,if_neg x91,if_neg x93,if_pos hm];exact ⟨rfl,_,_,_,_,by rw [List.append_nil];exact HF⟩
   | false =>
    rw [hm] at HM
    by_cases x128 : x.toNat < 128
    ·have hx : (x.toNat : Int) < 128 := by omega
     have HX := qb9 h ⟨3,0,x.toNat,0,nt,[],nt⟩ (.slice none 0 0) (World.ownsRow_nil _ _ _ _) rfl hn;clear h;go_enter Tryz.func82,Tryz.ntmps82;go_wp2_with fail;refine HM.mono ?_;rintro e _ ⟨rfl,rfl⟩;go_wp2_with fail;refine HX.mono ?_;rintro e W1 ⟨rfl,h1⟩;go_wp2_with fail;go_end0;rw [HE.out,if_neg x91,if_neg x93,if_neg (by rw [hm];decide),if_pos x128]
     exact ⟨rfl,h1⟩
    ·have hx : ¬ (x.toNat : Int) < 128 := by omega
     have HX := Z9 0 h;clear h;go_enter Tryz.func82,Tryz.ntmps82;go_wp2_with fail;refine HM.mono ?_;rintro e _ ⟨rfl,rfl⟩;go_wp2_with fail;refine HX.mono ?_;rintro e W1 ⟨rfl,-,h1⟩;go_wp2_with fail;go_end0;rw [HE.out,if_neg x91,if_neg x93,if_neg (by rw [hm];decide),if_neg x128]
     exact ⟨rfl,_,_,_,_,by rw [List.append_nil];exact h1⟩
theorem qla (x : UInt8) {w0 : World} {R T : Nat} {s : St} {es : List Ev} {W : World} (h : RdE w0 R T s es W) (hn : es.length ≤ 1000000) :
  Calls qP 83 #[.pointer (some ⟨R,0,none⟩),.int .u8 (x.toNat : Int)] W fun e W' => e = .returned (.tuple #[]) ∧ RdE w0 R T (Y9 s x).1 (es ++ (Y9 s x).2) W' := by
 obtain ⟨N,pv,tv,eqs,h⟩ := h;have HE : Hid (Y9 s x = if Zx x = true ∧ s.mid.size < 2 then ({ s with mid := s.mid ++ one x },[]) else if Zx x = false ∧ x.toNat < 128 then (bare 0,[⟨3,0,x.toNat,0,s.mid,[],nt⟩]) else (bare 0,[])) := rfl
 generalize Y9 s x = res at HE ⊢;obtain ⟨c0,c1,c2,c3,c4,c5,c6,c7,cf⟩ := h.cells;have HM := Ga x W
 cases hm : Zx x with
 | true =>
  rw [hm] at HM
  by_cases h2 : s.mid.size < 2
  ·have h2' : (s.mid.size : Int) < 2 := by omega
   have hsz : ¬ 9223372036854775807 < s.mid.size + (one x).size := by show ¬ _ < s.mid.size + 1;omega
   have kd : Below W.heap.size W W.drew := (qr _ _).drew;have HH : Hid (Rd w0 R T s es W.drew N pv tv eqs) := h.below kd;clear h;go_enter Tryz.func83,Tryz.ntmps83;go_wp2_with fail;refine HM.mono ?_;rintro e _ ⟨rfl,rfl⟩;go_wp2_with fail;go_region_with (go_at_call 120;refine (Gz x _).mono ?_;rintro e W1 ⟨rfl,b1⟩;obtain ⟨d0,d1,d2,d3,d4,d5,d6,d7,df⟩ := (HH.out.below b1).cells;have df2 := df 2)
   all_goals go_wp2_with fail
   all_goals go_end0
   all_goals rw [HE.out,if_pos ⟨hm,h2⟩]
   all_goals exact ⟨rfl,_,_,_,_,by rw [List.append_nil];exact (HH.out.below b1).mids (s.mid ++ one x)⟩
  ·have h2' : ¬ (s.mid.size : Int) < 2 := by omega
   have HX := Z9 0 h;clear h;go_enter Tryz.func83,Tryz.ntmps83;go_wp2_with fail;refine HM.mono ?_;rintro e _ ⟨rfl,rfl⟩;go_wp2_with fail;refine HM.mono ?_;rintro e _ ⟨rfl,rfl⟩;go_wp2_with fail;refine HX.mono ?_;rintro e W1 ⟨rfl,-,h1⟩;go_wp2_with fail;go_end0;rw [HE.out,if_neg (by omega),if_neg (by rw [hm];simp)]
   exact ⟨rfl,_,_,_,_,by rw [List.append_nil];exact h1⟩
 | false =>
  rw [hm] at HM
  by_cases x128 : x.toNat < 128
  ·have hx : (x.toNat : Int) < 128 := by omega
   have HX := qb9 h ⟨3,0,x.toNat,0,s.mid,[],nt⟩ (.slice none 0 0) (World.ownsRow_nil _ _ _ _) rfl hn;clear h;go_enter Tryz.func83,Tryz.ntmps83;go_wp2_with fail;refine HM.mono ?_;rintro e _ ⟨rfl,rfl⟩;go_wp2_with fail;refine HM.mono ?_;rintro e _ ⟨rfl,rfl⟩;go_wp2_with fail;refine HX.mono ?_;rintro e W1 ⟨rfl,h1⟩;go_wp2_with fail;go_end0;rw [HE.out,if_neg (by rw [hm];simp),if_pos ⟨hm,x128⟩]
   exact ⟨rfl,h1⟩
  ·have hx : ¬ (x.toNat : Int) < 128 := by omega
   have HX := Z9 0 h;clear h;go_enter Tryz.func83,Tryz.ntmps83;go_wp2_with fail;refine HM.mono ?_;rintro e _ ⟨rfl,rfl⟩;go_wp2_with fail;refine HM.mono ?_;rintro e _ ⟨rfl,rfl⟩;go_wp2_with fail;refine HX.mono ?_;rintro e W1 ⟨rfl,-,h1⟩;go_wp2_with fail;go_end0;rw [HE.out,if_neg (by rw [hm];simp),if_neg (by omega)]
   exact ⟨rfl,_,_,_,_,by rw [List.append_nil];exact h1⟩
theorem qdb (x : UInt8) {w0 : World} {R T : Nat} {s : St} {es : List Ev} {W : World} (h : RdE w0 R T s es W) (hn : es.length ≤ 1000000) :
  Calls qP 85 #[.pointer (some ⟨R,0,none⟩),.int .u8 (x.toNat : Int)] W fun e W' => e = .returned (.tuple #[]) ∧ RdE w0 R T (Yk s x).1 (es ++ (Yk s x).2) W' := by
 obtain ⟨N,pv,tv,eqs,h⟩ := h;have HE : Hid (Yk s x = if s.late = true ∨ x.toNat = 7 then (bare 0,[⟨5,0,0,0,nt,[],s.txt⟩]) else if x.toNat = 27 then ({ s with late := true },[]) else if x.toNat = 24 ∨ x.toNat = 26 then (bare 0,[]) else if 32 ≤ x.toNat ∧ s.txt.size < 64 then ({ s with txt := s.txt ++ one x },[]) else (s,[])) := rfl
 generalize Yk s x = res at HE ⊢;obtain ⟨c0,c1,c2,c3,c4,c5,c6,c7,cf⟩ := h.cells;have cf6 := cf 6
 by_cases hl : s.late = true
 ·have HX := qb9 h ⟨5, 0, 0, 0, nt, [], s.txt⟩ (.slice none 0 0) (World.ownsRow_nil _ _ _ _) rfl hn
  clear h;go_enter Tryz.func85,Tryz.ntmps85;go_wp2_with fail;refine HX.mono ?_;rintro e W1 ⟨rfl,h1⟩;go_wp2_with fail;go_end0;rw [HE.out,if_pos (.inl hl)];exact ⟨rfl,h1⟩
 ·have hl' : s.late = false := by simpa using hl
  by_cases x7 : x.toNat = 7
  ·have hx : (x.toNat : Int) = 7 := by omega
   have HX := qb9 h ⟨5,0,0,0,nt,[],s.txt⟩ (.slice none 0 0) (World.ownsRow_nil _ _ _ _) rfl hn;clear h hl;go_enter Tryz.func85,Tryz.ntmps85;go_wp2_with fail;refine HX.mono ?_;rintro e W1 ⟨rfl,h1⟩;go_wp2_with fail;go_end0;rw [HE.out,if_pos (.inr x7)];exact ⟨rfl,h1⟩
  ·have y7 : ¬ (x.toNat : Int) = 7 := by omega
   have HE2 : Hid (res = if x.toNat = 27 then ({ s with late := true },[]) else if x.toNat = 24 ∨ x.toNat = 26 then (bare 0,[]) else if 32 ≤ x.toNat ∧ s.txt.size < 64 then ({ s with txt := s.txt ++ one x },[]) else (s,[])) := by
    unfold Hid;rw [HE.out,if_neg];rintro (h | h)
    ·exact hl h
    ·exact x7 h
   clear HE hl
   by_cases x27 : x.toNat = 27
   ·have hx : (x.toNat : Int) = 27 := by omega
    have HF : Hid (Rd w0 R T { s with late := true } es (W.setCell ⟨R,6,none⟩ (.bool true)) N pv tv eqs) := h.q2g true
    clear h;go_enter Tryz.func85,Tryz.ntmps85;go_wp2_with fail;go_end0;rw [HE2.out,if_pos x27];exact ⟨rfl,_,_,_,_,by rw [List.append_nil];exact HF.out⟩
   ·have y27 : ¬ (x.toNat : Int) = 27 := by omega
    by_cases x24 : x.toNat = 24 ∨ x.toNat = 26
    ·have HX := Z9 0 h
     clear h
     rcases x24 with x24 | x24
     ·have hx : (x.toNat : Int) = 24 := by omega
      go_enter Tryz.func85,Tryz.ntmps85;go_wp2_with fail;refine HX.mono ?_;rintro e W1 ⟨rfl,-,h1⟩;go_wp2_with fail;go_end0;rw [HE2.out,if_neg x27,if_pos (.inl x24)];exact ⟨rfl,_,_,_,_,by rw [List.append_nil];exact h1⟩
     ·have hx : (x.toNat : Int) = 26 := by omega
      go_enter Tryz.func85,Tryz.ntmps85;go_wp2_with fail;refine HX.mono ?_;rintro e W1 ⟨rfl,-,h1⟩;go_wp2_with fail;go_end0;rw [HE2.out,if_neg x27,if_pos (.inr x24)];exact ⟨rfl,_,_,_,_,by rw [List.append_nil];exact h1⟩
    ·have y24 : ¬ (x.toNat : Int) = 24 := by omega
     have y26 : ¬ (x.toNat : Int) = 26 := by omega
     have b24 : ((x.toNat : Int) == 24) = false := by rw [beq_eq_false_iff_ne];exact y24
     have b26 : ((x.toNat : Int) == 26) = false := by rw [beq_eq_false_iff_ne];exact y26
     by_cases x32 : 32 ≤ x.toNat
     ·have hx : (32 : Int) ≤ (x.toNat : Int) := by omega
      by_cases h2 : s.txt.size < 64
      ·have h2' : (s.txt.size : Int) < 64 := by omega
       have hsz : ¬ 9223372036854775807 < s.txt.size + (one x).size := by show ¬ _ < s.txt.size + 1;omega
       have kd : Below W.heap.size W W.drew := (qr _ _).drew;have HH : Hid (Rd w0 R T s es W.drew N pv tv eqs) := h.below kd;clear h;go_enter Tryz.func85,Tryz.ntmps85;go_wp2_with fail;go_region_with (go_at_call 120;refine (Gz x _).mono ?_;rintro e W1 ⟨rfl,b1⟩;obtain ⟨d0,d1,d2,d3,d4,d5,d6,d7,df⟩ := (HH.out.below b1).cells;have df2 := df 4)
       all_goals go_wp2_with fail
       all_goals go_end0
       all_goals rw [HE2.out,if_neg x27,if_neg x24,if_pos ⟨x32,h2⟩]
       all_goals exact ⟨rfl,_,_,_,_,by rw [List.append_nil];exact (HH.out.below b1).txts (s.txt ++ one x)⟩
      ·have h2' : ¬ (s.txt.size : Int) < 64 := by omega
       have HF : Hid (Rd w0 R T s es W N pv tv eqs) := h;clear h;go_enter Tryz.func85,Tryz.ntmps85;go_wp2_with fail;go_end0;rw [HE2.out,if_neg x27,if_neg x24,if_neg (by omega)]
       exact ⟨rfl,_,_,_,_,by rw [List.append_nil];exact HF.out⟩
     ·have hx : ¬ (32 : Int) ≤ (x.toNat : Int) := by omega
      have HF : Hid (Rd w0 R T s es W N pv tv eqs) := h;clear h;go_enter Tryz.func85,Tryz.ntmps85;go_wp2_with fail;go_end0;rw [HE2.out,if_neg x27,if_neg x24,if_neg (by omega)]
      exact ⟨rfl,_,_,_,_,by rw [List.append_nil];exact HF.out⟩
end Prs
namespace Prs
open Go.Lib (firstT accLo accHi)
theorem Yu {B : Nat} {a w : World} (h : Below B a w) (n : Nat) : Below B a (w.drewN n) := h.trans ⟨rfl,rfl,rfl,qd _,fun _ _ => rfl⟩
set_option maxRecDepth 1000000 in
theorem Vy (s : ByteArray) (w : World) (hT : Lib.Utf8Tabs 1 2 w) :
  Calls qP 72 #[.string s] w fun e w' => e = .returned (.bool (full s)) ∧ Below w.heap.size w w' := by
 by_cases h0 : s.size = 0
 ·have hz : (s.size : Int) = 0 := by omega
  have e : full s = false := if_pos h0;rw [e];clear e;go_enter Tryz.func72,Tryz.ntmps72;go_wp2_with fail;go_ret;exact ⟨rfl,qr _ _⟩
 ·have hz0 : (0 : Int) < (s.size : Int) := by omega
  have hz0' : ¬ ((s.size : Int) = 0) := by omega
  obtain ⟨x0,hx0⟩ : ∃ x0,s.get! 0 = x0 := ⟨_,rfl⟩;obtain ⟨x1,hx1⟩ : ∃ x1,s.get! 1 = x1 := ⟨_,rfl⟩;obtain ⟨x2,hx2⟩ : ∃ x2,s.get! 2 = x2 := ⟨_,rfl⟩;have hs0 : s[0]'(by omega) = x0 := by rw [← hx0];exact (Utf8W.get!_of_lt s 0 (by omega)).symm
  have l0 := x0.toNat_lt;have l1 := x1.toNat_lt;have l2 := x2.toNat_lt;have hf : full s = qsl s.size x0.toNat x1.toNat x2.toNat := by unfold full;rw [if_neg h0,hx0,hx1,hx2]
  rw [hf];clear hf;have hc0 := hT.1 x0.toNat (by omega)
  unfold qsl
  rcases Lib.firstT_cases x0.toNat with hX | hX | hX | hX | hX | hX | hX | hX | hX
  ·rw [hX] at hc0 ⊢
   rw [if_pos (by omega)]
   clear hT hX;go_enter Tryz.func72,Tryz.ntmps72;go_wp2_with fail;go_ret;exact ⟨Qh (by simp),(qr _ _)⟩
  ·rw [hX] at hc0 ⊢
   rw [if_pos (by omega)]
   clear hT hX;go_enter Tryz.func72,Tryz.ntmps72;go_wp2_with fail;go_ret;exact ⟨Qh (by simp),(qr _ _)⟩
  ·rw [hX] at hc0 ⊢
   have ha0 := (hT.2 0 (by omega)).1
   have ha1 := (hT.2 0 (by omega)).2
   simp only [accLo,accHi,Nat.reduceMul,Nat.reduceAdd,Nat.reduceEqDiff,if_true,if_false,Nat.reduceMod,Nat.reduceDiv] at ha0 ha1 ⊢;clear hT hX
   by_cases hn : 2 ≤ s.size
   ·have hnz : (2 : Int) ≤ (s.size : Int) := by omega
    rw [if_pos hn];go_enter Tryz.func72,Tryz.ntmps72;go_wp2_with fail;go_ret;exact ⟨Qh (by simp),(qr _ _)⟩
   ·have hnz : ¬ (2 : Int) ≤ (s.size : Int) := by omega
    rw [if_neg hn];have m1 : ¬ (1 : Int) < (s.size : Int) := by omega
    have m1d : decide ((1 : Int) < (s.size : Int)) = false := by rw [decide_eq_false_iff_not];exact m1
    have m2 : ¬ (2 : Int) < (s.size : Int) := by omega
    have m2d : decide ((2 : Int) < (s.size : Int)) = false := by rw [decide_eq_false_iff_not];exact m2
    rw [if_neg (by omega)]
    go_enter Tryz.func72,Tryz.ntmps72;go_wp2_with fail;go_big_quiet (fail);go_wp2_with fail;go_ret;exact ⟨Qh (by simp <;> omega),Yu ((qr _ _).alloc (qd _) _) _⟩
  ·rw [hX] at hc0 ⊢
   have ha0 := (hT.2 1 (by omega)).1
   have ha1 := (hT.2 1 (by omega)).2
   simp only [accLo,accHi,Nat.reduceMul,Nat.reduceAdd,Nat.reduceEqDiff,if_true,if_false,Nat.reduceMod,Nat.reduceDiv] at ha0 ha1 ⊢;clear hT hX
   by_cases hn : 3 ≤ s.size
   ·have hnz : (3 : Int) ≤ (s.size : Int) := by omega
    rw [if_pos hn];go_enter Tryz.func72,Tryz.ntmps72;go_wp2_with fail;go_ret;exact ⟨Qh (by simp),(qr _ _)⟩
   ·have hnz : ¬ (3 : Int) ≤ (s.size : Int) := by omega
    rw [if_neg hn]
    by_cases n1 : 1 < s.size
    ·have m1 : (1 : Int) < (s.size : Int) := by omega
     have hs1 : s[1]'(by omega) = x1 := by rw [← hx1];exact (Utf8W.get!_of_lt s 1 (by omega)).symm
     by_cases a1 : x1.toNat < 160
     ·have a1' : (x1.toNat : Int) < 160 := by omega
      rw [if_pos (by omega)]
      go_enter Tryz.func72,Tryz.ntmps72;go_wp2_with fail;go_big_quiet (fail);go_wp2_with fail;go_ret;exact ⟨Qh (by simp),Yu ((qr _ _).alloc (qd _) _) _⟩
     ·have a1' : ¬ (x1.toNat : Int) < 160 := by omega
      have a1d : decide ((x1.toNat : Int) < 160) = false := by rw [decide_eq_false_iff_not];exact a1'
      by_cases a2 : 191 < x1.toNat
      ·have a2' : (191 : Int) < (x1.toNat : Int) := by omega
       rw [if_pos (by omega)]
       go_enter Tryz.func72,Tryz.ntmps72;go_wp2_with fail;go_big_quiet (fail);go_wp2_with fail;go_ret;exact ⟨Qh (by simp),Yu ((qr _ _).alloc (qd _) _) _⟩
      ·have a2' : ¬ (191 : Int) < (x1.toNat : Int) := by omega
       rw [if_neg (by omega)]
       have m2 : ¬ (2 : Int) < (s.size : Int) := by omega
       have m2d : decide ((2 : Int) < (s.size : Int)) = false := by rw [decide_eq_false_iff_not];exact m2
       go_enter Tryz.func72,Tryz.ntmps72;go_wp2_with fail;go_big_quiet (fail);go_wp2_with fail;go_ret;exact ⟨Qh (by simp <;> omega),Yu ((qr _ _).alloc (qd _) _) _⟩
    ·have m1 : ¬ (1 : Int) < (s.size : Int) := by omega
     have m1d : decide ((1 : Int) < (s.size : Int)) = false := by rw [decide_eq_false_iff_not];exact m1
     have m2 : ¬ (2 : Int) < (s.size : Int) := by omega
     have m2d : decide ((2 : Int) < (s.size : Int)) = false := by rw [decide_eq_false_iff_not];exact m2
     rw [if_neg (by omega)]
     go_enter Tryz.func72,Tryz.ntmps72;go_wp2_with fail;go_big_quiet (fail);go_wp2_with fail;go_ret;exact ⟨Qh (by simp <;> omega),Yu ((qr _ _).alloc (qd _) _) _⟩
  ·rw [hX] at hc0 ⊢
   have ha0 := (hT.2 0 (by omega)).1
   have ha1 := (hT.2 0 (by omega)).2
   simp only [accLo,accHi,Nat.reduceMul,Nat.reduceAdd,Nat.reduceEqDiff,if_true,if_false,Nat.reduceMod,Nat.reduceDiv] at ha0 ha1 ⊢;clear hT hX
   by_cases hn : 3 ≤ s.size
   ·have hnz : (3 : Int) ≤ (s.size : Int) := by omega
    rw [if_pos hn];go_enter Tryz.func72,Tryz.ntmps72;go_wp2_with fail;go_ret;exact ⟨Qh (by simp),(qr _ _)⟩
   ·have hnz : ¬ (3 : Int) ≤ (s.size : Int) := by omega
    rw [if_neg hn]
    by_cases n1 : 1 < s.size
    ·have m1 : (1 : Int) < (s.size : Int) := by omega
     have hs1 : s[1]'(by omega) = x1 := by rw [← hx1];exact (Utf8W.get!_of_lt s 1 (by omega)).symm
     by_cases a1 : x1.toNat < 128
     ·have a1' : (x1.toNat : Int) < 128 := by omega
      rw [if_pos (by omega)]
      go_enter Tryz.func72,Tryz.ntmps72;go_wp2_with fail;go_big_quiet (fail);go_wp2_with fail;go_ret;exact ⟨Qh (by simp),Yu ((qr _ _).alloc (qd _) _) _⟩
     ·have a1' : ¬ (x1.toNat : Int) < 128 := by omega
      have a1d : decide ((x1.toNat : Int) < 128) = false := by rw [decide_eq_false_iff_not];exact a1'
      by_cases a2 : 191 < x1.toNat
      ·have a2' : (191 : Int) < (x1.toNat : Int) := by omega
       rw [if_pos (by omega)]
       go_enter Tryz.func72,Tryz.ntmps72;go_wp2_with fail;go_big_quiet (fail);go_wp2_with fail;go_ret;exact ⟨Qh (by simp),Yu ((qr _ _).alloc (qd _) _) _⟩
      ·have a2' : ¬ (191 : Int) < (x1.toNat : Int) := by omega
       rw [if_neg (by omega)]
       have m2 : ¬ (2 : Int) < (s.size : Int) := by omega
       have m2d : decide ((2 : Int) < (s.size : Int)) = false := by rw [decide_eq_false_iff_not];exact m2
       go_enter Tryz.func72,Tryz.ntmps72;go_wp2_with fail;go_big_quiet (fail);go_wp2_with fail;go_ret;exact ⟨Qh (by simp <;> omega),Yu ((qr _ _).alloc (qd _) _) _⟩
    ·have m1 : ¬ (1 : Int) < (s.size : Int) := by omega
     have m1d : decide ((1 : Int) < (s.size : Int)) = false := by rw [decide_eq_false_iff_not];exact m1
     have m2 : ¬ (2 : Int) < (s.size : Int) := by omega
     have m2d : decide ((2 : Int) < (s.size : Int)) = false := by rw [decide_eq_false_iff_not];exact m2
     rw [if_neg (by omega)]
     go_enter Tryz.func72,Tryz.ntmps72;go_wp2_with fail;go_big_quiet (fail);go_wp2_with fail;go_ret;exact ⟨Qh (by simp <;> omega),Yu ((qr _ _).alloc (qd _) _) _⟩
  ·rw [hX] at hc0 ⊢
   have ha0 := (hT.2 2 (by omega)).1
   have ha1 := (hT.2 2 (by omega)).2
   simp only [accLo,accHi,Nat.reduceMul,Nat.reduceAdd,Nat.reduceEqDiff,if_true,if_false,Nat.reduceMod,Nat.reduceDiv] at ha0 ha1 ⊢;clear hT hX
   by_cases hn : 3 ≤ s.size
   ·have hnz : (3 : Int) ≤ (s.size : Int) := by omega
    rw [if_pos hn];go_enter Tryz.func72,Tryz.ntmps72;go_wp2_with fail;go_ret;exact ⟨Qh (by simp),(qr _ _)⟩
   ·have hnz : ¬ (3 : Int) ≤ (s.size : Int) := by omega
    rw [if_neg hn]
    by_cases n1 : 1 < s.size
    ·have m1 : (1 : Int) < (s.size : Int) := by omega
     have hs1 : s[1]'(by omega) = x1 := by rw [← hx1];exact (Utf8W.get!_of_lt s 1 (by omega)).symm
     by_cases a1 : x1.toNat < 128
     ·have a1' : (x1.toNat : Int) < 128 := by omega
      rw [if_pos (by omega)]
      go_enter Tryz.func72,Tryz.ntmps72;go_wp2_with fail;go_big_quiet (fail);go_wp2_with fail;go_ret;exact ⟨Qh (by simp),Yu ((qr _ _).alloc (qd _) _) _⟩
     ·have a1' : ¬ (x1.toNat : Int) < 128 := by omega
      have a1d : decide ((x1.toNat : Int) < 128) = false := by rw [decide_eq_false_iff_not];exact a1'
      by_cases a2 : 159 < x1.toNat
      ·have a2' : (159 : Int) < (x1.toNat : Int) := by omega
       rw [if_pos (by omega)]
       go_enter Tryz.func72,Tryz.ntmps72;go_wp2_with fail;go_big_quiet (fail);go_wp2_with fail;go_ret;exact ⟨Qh (by simp),Yu ((qr _ _).alloc (qd _) _) _⟩
      ·have a2' : ¬ (159 : Int) < (x1.toNat : Int) := by omega
       rw [if_neg (by omega)]
       have m2 : ¬ (2 : Int) < (s.size : Int) := by omega
       have m2d : decide ((2 : Int) < (s.size : Int)) = false := by rw [decide_eq_false_iff_not];exact m2
       go_enter Tryz.func72,Tryz.ntmps72;go_wp2_with fail;go_big_quiet (fail);go_wp2_with fail;go_ret;exact ⟨Qh (by simp <;> omega),Yu ((qr _ _).alloc (qd _) _) _⟩
    ·have m1 : ¬ (1 : Int) < (s.size : Int) := by omega
     have m1d : decide ((1 : Int) < (s.size : Int)) = false := by rw [decide_eq_false_iff_not];exact m1
     have m2 : ¬ (2 : Int) < (s.size : Int) := by omega
     have m2d : decide ((2 : Int) < (s.size : Int)) = false := by rw [decide_eq_false_iff_not];exact m2
     rw [if_neg (by omega)]
     go_enter Tryz.func72,Tryz.ntmps72;go_wp2_with fail;go_big_quiet (fail);go_wp2_with fail;go_ret;exact ⟨Qh (by simp <;> omega),Yu ((qr _ _).alloc (qd _) _) _⟩
  ·rw [hX] at hc0 ⊢
   have ha0 := (hT.2 3 (by omega)).1
   have ha1 := (hT.2 3 (by omega)).2
   simp only [accLo,accHi,Nat.reduceMul,Nat.reduceAdd,Nat.reduceEqDiff,if_true,if_false,Nat.reduceMod,Nat.reduceDiv] at ha0 ha1 ⊢;clear hT hX
   by_cases hn : 4 ≤ s.size
   ·have hnz : (4 : Int) ≤ (s.size : Int) := by omega
    rw [if_pos hn];go_enter Tryz.func72,Tryz.ntmps72;go_wp2_with fail;go_ret;exact ⟨Qh (by simp),(qr _ _)⟩
   ·have hnz : ¬ (4 : Int) ≤ (s.size : Int) := by omega
    rw [if_neg hn]
    by_cases n1 : 1 < s.size
    ·have m1 : (1 : Int) < (s.size : Int) := by omega
     have hs1 : s[1]'(by omega) = x1 := by rw [← hx1];exact (Utf8W.get!_of_lt s 1 (by omega)).symm
     by_cases a1 : x1.toNat < 144
     ·have a1' : (x1.toNat : Int) < 144 := by omega
      rw [if_pos (by omega)]
      go_enter Tryz.func72,Tryz.ntmps72;go_wp2_with fail;go_big_quiet (fail);go_wp2_with fail;go_ret;exact ⟨Qh (by simp),Yu ((qr _ _).alloc (qd _) _) _⟩
     ·have a1' : ¬ (x1.toNat : Int) < 144 := by omega
      have a1d : decide ((x1.toNat : Int) < 144) = false := by rw [decide_eq_false_iff_not];exact a1'
      by_cases a2 : 191 < x1.toNat
      ·have a2' : (191 : Int) < (x1.toNat : Int) := by omega
       rw [if_pos (by omega)]
       go_enter Tryz.func72,Tryz.ntmps72;go_wp2_with fail;go_big_quiet (fail);go_wp2_with fail;go_ret;exact ⟨Qh (by simp),Yu ((qr _ _).alloc (qd _) _) _⟩
      ·have a2' : ¬ (191 : Int) < (x1.toNat : Int) := by omega
       rw [if_neg (by omega)]
       by_cases n2 : 2 < s.size
       ·have m2 : (2 : Int) < (s.size : Int) := by omega
        have hs2 : s[2]'(by omega) = x2 := by rw [← hx2];exact (Utf8W.get!_of_lt s 2 (by omega)).symm
        by_cases b1 : x2.toNat < 128
        ·have b1' : (x2.toNat : Int) < 128 := by omega
         go_enter Tryz.func72,Tryz.ntmps72;go_wp2_with fail;go_big_quiet (fail);go_wp2_with fail;go_ret;exact ⟨Qh (by simp [n2,b1]),Yu ((qr _ _).alloc (qd _) _) _⟩
        ·have b1' : ¬ (x2.toNat : Int) < 128 := by omega
         have b1d : decide ((x2.toNat : Int) < 128) = false := by rw [decide_eq_false_iff_not];exact b1'
         by_cases b2 : 191 < x2.toNat
         ·have b2' : (191 : Int) < (x2.toNat : Int) := by omega
          go_enter Tryz.func72,Tryz.ntmps72;go_wp2_with fail;go_big_quiet (fail);go_wp2_with fail;go_ret;exact ⟨Qh (by simp [n2,b2]),Yu ((qr _ _).alloc (qd _) _) _⟩
         ·have b2' : ¬ (191 : Int) < (x2.toNat : Int) := by omega
          go_enter Tryz.func72,Tryz.ntmps72;go_wp2_with fail;go_big_quiet (fail);go_wp2_with fail;go_ret;exact ⟨Qh (by simp <;> omega),Yu ((qr _ _).alloc (qd _) _) _⟩
       ·have m2 : ¬ (2 : Int) < (s.size : Int) := by omega
        have m2d : decide ((2 : Int) < (s.size : Int)) = false := by rw [decide_eq_false_iff_not];exact m2
        go_enter Tryz.func72,Tryz.ntmps72;go_wp2_with fail;go_big_quiet (fail);go_wp2_with fail;go_ret;exact ⟨Qh (by simp <;> omega),Yu ((qr _ _).alloc (qd _) _) _⟩
    ·have m1 : ¬ (1 : Int) < (s.size : Int) := by omega
     have m1d : decide ((1 : Int) < (s.size : Int)) = false := by rw [decide_eq_false_iff_not];exact m1
     have m2 : ¬ (2 : Int) < (s.size : Int) := by omega
     have m2d : decide ((2 : Int) < (s.size : Int)) = false := by rw [decide_eq_false_iff_not];exact m2
     rw [if_neg (by omega)]
     go_enter Tryz.func72,Tryz.ntmps72;go_wp2_with fail;go_big_quiet (fail);go_wp2_with fail;go_ret;exact ⟨Qh (by simp <;> omega),Yu ((qr _ _).alloc (qd _) _) _⟩
  ·rw [hX] at hc0 ⊢
   have ha0 := (hT.2 0 (by omega)).1
   have ha1 := (hT.2 0 (by omega)).2
   simp only [accLo,accHi,Nat.reduceMul,Nat.reduceAdd,Nat.reduceEqDiff,if_true,if_false,Nat.reduceMod,Nat.reduceDiv] at ha0 ha1 ⊢;clear hT hX
   by_cases hn : 4 ≤ s.size
   ·have hnz : (4 : Int) ≤ (s.size : Int) := by omega
    rw [if_pos hn];go_enter Tryz.func72,Tryz.ntmps72;go_wp2_with fail;go_ret;exact ⟨Qh (by simp),(qr _ _)⟩
   ·have hnz : ¬ (4 : Int) ≤ (s.size : Int) := by omega
    rw [if_neg hn]
    by_cases n1 : 1 < s.size
    ·have m1 : (1 : Int) < (s.size : Int) := by omega
     have hs1 : s[1]'(by omega) = x1 := by rw [← hx1];exact (Utf8W.get!_of_lt s 1 (by omega)).symm
     by_cases a1 : x1.toNat < 128
     ·have a1' : (x1.toNat : Int) < 128 := by omega
      rw [if_pos (by omega)]
      go_enter Tryz.func72,Tryz.ntmps72;go_wp2_with fail;go_big_quiet (fail);go_wp2_with fail;go_ret;exact ⟨Qh (by simp),Yu ((qr _ _).alloc (qd _) _) _⟩
     ·have a1' : ¬ (x1.toNat : Int) < 128 := by omega
      have a1d : decide ((x1.toNat : Int) < 128) = false := by rw [decide_eq_false_iff_not];exact a1'
      by_cases a2 : 191 < x1.toNat
      ·have a2' : (191 : Int) < (x1.toNat : Int) := by omega
       rw [if_pos (by omega)]
       go_enter Tryz.func72,Tryz.ntmps72;go_wp2_with fail;go_big_quiet (fail);go_wp2_with fail;go_ret;exact ⟨Qh (by simp),Yu ((qr _ _).alloc (qd _) _) _⟩
      ·have a2' : ¬ (191 : Int) < (x1.toNat : Int) := by omega
       rw [if_neg (by omega)]
       by_cases n2 : 2 < s.size
       ·have m2 : (2 : Int) < (s.size : Int) := by omega
        have hs2 : s[2]'(by omega) = x2 := by rw [← hx2];exact (Utf8W.get!_of_lt s 2 (by omega)).symm
        by_cases b1 : x2.toNat < 128
        ·have b1' : (x2.toNat : Int) < 128 := by omega
         go_enter Tryz.func72,Tryz.ntmps72;go_wp2_with fail;go_big_quiet (fail);go_wp2_with fail;go_ret;exact ⟨Qh (by simp [n2,b1]),Yu ((qr _ _).alloc (qd _) _) _⟩
        ·have b1' : ¬ (x2.toNat : Int) < 128 := by omega
         have b1d : decide ((x2.toNat : Int) < 128) = false := by rw [decide_eq_false_iff_not];exact b1'
         by_cases b2 : 191 < x2.toNat
         ·have b2' : (191 : Int) < (x2.toNat : Int) := by omega
          go_enter Tryz.func72,Tryz.ntmps72;go_wp2_with fail;go_big_quiet (fail);go_wp2_with fail;go_ret;exact ⟨Qh (by simp [n2,b2]),Yu ((qr _ _).alloc (qd _) _) _⟩
         ·have b2' : ¬ (191 : Int) < (x2.toNat : Int) := by omega
          go_enter Tryz.func72,Tryz.ntmps72;go_wp2_with fail;go_big_quiet (fail);go_wp2_with fail;go_ret;exact ⟨Qh (by simp <;> omega),Yu ((qr _ _).alloc (qd _) _) _⟩
       ·have m2 : ¬ (2 : Int) < (s.size : Int) := by omega
        have m2d : decide ((2 : Int) < (s.size : Int)) = false := by rw [decide_eq_false_iff_not];exact m2
        go_enter Tryz.func72,Tryz.ntmps72;go_wp2_with fail;go_big_quiet (fail);go_wp2_with fail;go_ret;exact ⟨Qh (by simp <;> omega),Yu ((qr _ _).alloc (qd _) _) _⟩
    ·have m1 : ¬ (1 : Int) < (s.size : Int) := by omega
     have m1d : decide ((1 : Int) < (s.size : Int)) = false := by rw [decide_eq_false_iff_not];exact m1
     have m2 : ¬ (2 : Int) < (s.size : Int) := by omega
     have m2d : decide ((2 : Int) < (s.size : Int)) = false := by rw [decide_eq_false_iff_not];exact m2
     rw [if_neg (by omega)]
     go_enter Tryz.func72,Tryz.ntmps72;go_wp2_with fail;go_big_quiet (fail);go_wp2_with fail;go_ret;exact ⟨Qh (by simp <;> omega),Yu ((qr _ _).alloc (qd _) _) _⟩
  ·rw [hX] at hc0 ⊢
   have ha0 := (hT.2 4 (by omega)).1
   have ha1 := (hT.2 4 (by omega)).2
   simp only [accLo,accHi,Nat.reduceMul,Nat.reduceAdd,Nat.reduceEqDiff,if_true,if_false,Nat.reduceMod,Nat.reduceDiv] at ha0 ha1 ⊢;clear hT hX
   by_cases hn : 4 ≤ s.size
   ·have hnz : (4 : Int) ≤ (s.size : Int) := by omega
    rw [if_pos hn];go_enter Tryz.func72,Tryz.ntmps72;go_wp2_with fail;go_ret;exact ⟨Qh (by simp),(qr _ _)⟩
   ·have hnz : ¬ (4 : Int) ≤ (s.size : Int) := by omega
    rw [if_neg hn]
    by_cases n1 : 1 < s.size
    ·have m1 : (1 : Int) < (s.size : Int) := by omega
     have hs1 : s[1]'(by omega) = x1 := by rw [← hx1];exact (Utf8W.get!_of_lt s 1 (by omega)).symm
     by_cases a1 : x1.toNat < 128
     ·have a1' : (x1.toNat : Int) < 128 := by omega
      rw [if_pos (by omega)]
      go_enter Tryz.func72,Tryz.ntmps72;go_wp2_with fail;go_big_quiet (fail);go_wp2_with fail;go_ret;exact ⟨Qh (by simp),Yu ((qr _ _).alloc (qd _) _) _⟩
     ·have a1' : ¬ (x1.toNat : Int) < 128 := by omega
      have a1d : decide ((x1.toNat : Int) < 128) = false := by rw [decide_eq_false_iff_not];exact a1'
      by_cases a2 : 143 < x1.toNat
      ·have a2' : (143 : Int) < (x1.toNat : Int) := by omega
       rw [if_pos (by omega)]
       go_enter Tryz.func72,Tryz.ntmps72;go_wp2_with fail;go_big_quiet (fail);go_wp2_with fail;go_ret;exact ⟨Qh (by simp),Yu ((qr _ _).alloc (qd _) _) _⟩
      ·have a2' : ¬ (143 : Int) < (x1.toNat : Int) := by omega
       rw [if_neg (by omega)]
       by_cases n2 : 2 < s.size
       ·have m2 : (2 : Int) < (s.size : Int) := by omega
        have hs2 : s[2]'(by omega) = x2 := by rw [← hx2];exact (Utf8W.get!_of_lt s 2 (by omega)).symm
        by_cases b1 : x2.toNat < 128
        ·have b1' : (x2.toNat : Int) < 128 := by omega
         go_enter Tryz.func72,Tryz.ntmps72;go_wp2_with fail;go_big_quiet (fail);go_wp2_with fail;go_ret;exact ⟨Qh (by simp [n2,b1]),Yu ((qr _ _).alloc (qd _) _) _⟩
        ·have b1' : ¬ (x2.toNat : Int) < 128 := by omega
         have b1d : decide ((x2.toNat : Int) < 128) = false := by rw [decide_eq_false_iff_not];exact b1'
         by_cases b2 : 191 < x2.toNat
         ·have b2' : (191 : Int) < (x2.toNat : Int) := by omega
          go_enter Tryz.func72,Tryz.ntmps72;go_wp2_with fail;go_big_quiet (fail);go_wp2_with fail;go_ret;exact ⟨Qh (by simp [n2,b2]),Yu ((qr _ _).alloc (qd _) _) _⟩
         ·have b2' : ¬ (191 : Int) < (x2.toNat : Int) := by omega
          go_enter Tryz.func72,Tryz.ntmps72;go_wp2_with fail;go_big_quiet (fail);go_wp2_with fail;go_ret;exact ⟨Qh (by simp <;> omega),Yu ((qr _ _).alloc (qd _) _) _⟩
       ·have m2 : ¬ (2 : Int) < (s.size : Int) := by omega
        have m2d : decide ((2 : Int) < (s.size : Int)) = false := by rw [decide_eq_false_iff_not];exact m2
        go_enter Tryz.func72,Tryz.ntmps72;go_wp2_with fail;go_big_quiet (fail);go_wp2_with fail;go_ret;exact ⟨Qh (by simp <;> omega),Yu ((qr _ _).alloc (qd _) _) _⟩
    ·have m1 : ¬ (1 : Int) < (s.size : Int) := by omega
     have m1d : decide ((1 : Int) < (s.size : Int)) = false := by rw [decide_eq_false_iff_not];exact m1
     have m2 : ¬ (2 : Int) < (s.size : Int) := by omega
     have m2d : decide ((2 : Int) < (s.size : Int)) = false := by rw [decide_eq_false_iff_not];exact m2
     rw [if_neg (by omega)]
     go_enter Tryz.func72,Tryz.ntmps72;go_wp2_with fail;go_big_quiet (fail);go_wp2_with fail;go_ret;exact ⟨Qh (by simp <;> omega),Yu ((qr _ _).alloc (qd _) _) _⟩
end Prs
namespace Prs
def Tabs (w : World) : Prop := Lib.Utf8Tabs 1 2 w
theorem Qa {w w' : World} {p i : Nat} {v : Value} (hb : Below w.heap.size w w') (h : w.cell? ⟨p,i,none⟩ = some v) : w'.cell? ⟨p,i,none⟩ = some v := by
 have := World.block_lt_of_cell? w _ h;unfold World.cell? at h ⊢;rw [hb.block p this];exact h
theorem Tabs.next {w w' : World} (h : Tabs w) (hb : Below w.heap.size w w') : Tabs w' :=
 ⟨fun c hc => Qa hb (h.1 c hc),fun i hi => ⟨Qa hb (h.2 i hi).1,Qa hb (h.2 i hi).2⟩⟩
theorem qds (s : ByteArray) : (s.toList == []) = decide (s.size = 0) := by
 rw [ByteArray.toList_eq];have : s.size = s.data.toList.length := (Array.length_toList (xs := s.data)).symm;rw [this]
 cases s.data.toList with
 | nil => rfl
 | cons a l => simp
theorem qyb (s : ByteArray) (w : World) (hT : Tabs w) (h0 : s.size ≠ 0) :
  Calls qP 121 #[.string s] w fun e w' => e = .returned (.tuple #[.int .i32 (Lib.decodeGo s).1,.int .i64 (Lib.decodeGo s).2]) ∧ Below w.heap.size w w' := by
 have he : (s.toList == []) = false := by rw [qds,decide_eq_false_iff_not];exact h0
 have HD := Tryz.utf8_DecodeRuneInString s w hT;go_enter Tryz.func121,Tryz.ntmps121;go_wp2_with fail;refine HD.mono ?_;rintro e W1 ⟨rfl,b1⟩;go_wp2_with fail;go_ret2;exact ⟨rfl,b1⟩
theorem qgg (n b0 b1 b2 b3 : Nat) : 1 ≤ (Lib.decodeN n b0 b1 b2 b3).2 := by
 unfold Lib.decodeN
 repeat' split
 all_goals simp
theorem qjp (n b0 b1 b2 b3 : Nat) (hn : 1 ≤ n) : (Lib.decodeN n b0 b1 b2 b3).2 ≤ n := by
 unfold Lib.decodeN
 repeat' split
 all_goals simp
 all_goals omega
theorem qab (s : ByteArray) (h : s.size ≠ 0) : 1 ≤ (Lib.decodeGo s).2 ∧ (Lib.decodeGo s).2 ≤ s.size := by
 have e : Lib.decodeGo s = Utf8.decode s 0 := if_neg h;rw [e,Lib.decode_at];exact ⟨qgg _ _ _ _ _,qjp _ _ _ _ _ (by omega)⟩
theorem Fe (q : Nat) (D : ByteArray) (h : full D = false) : drain q D = ([],D) := by
 cases q with
 | zero => rfl
 | succ q => unfold drain;rw [h];rfl
theorem qcm (q : Nat) (D : ByteArray) (h : full D = true) : drain (q + 1) D = ((evP (Lib.decodeGo D).1) :: (drain q (D.extract (Lib.decodeGo D).2 D.size)).1,(drain q (D.extract (Lib.decodeGo D).2 D.size)).2) := by
 rw [drain,if_pos h]
theorem qfi {s : ByteArray} (h : full s = true) : s.size ≠ 0 := by
 intro e;unfold full at h;rw [if_pos e] at h;exact absurd h (by decide)
theorem qkq (x : UInt8) {w0 : World} {R T : Nat} {s : St} {es : List Ev} {W : World} (hT : Tabs w0) (h : RdE w0 R T s es W) (hn : es.length + s.left.size ≤ 1000000) :
  Calls qP 81 #[.pointer (some ⟨R,0,none⟩),.int .u8 (x.toNat : Int)] W fun e W' => e = .returned (.tuple #[]) ∧ RdE w0 R T (G8 s x).1 (es ++ (G8 s x).2) W' := by
 obtain ⟨N,pv,tv,eqs,h⟩ := h;obtain ⟨c0,c1,c2,c3,c4,c5,c6,c7,cf⟩ := h.cells;have HT : Hid (∀ W,Below w0.heap.size w0 W → Tabs W) := fun W k => hT.next k
 have hsz : ¬ 9223372036854775807 < s.left.size + (one x).size := by show ¬ _ < s.left.size + 1;omega
 have kd : Below W.heap.size W W.drew := (qr _ _).drew;have HH : Hid (Rd w0 R T s es W.drew N pv tv eqs) := h.below kd;obtain ⟨D,hD⟩ : ∃ D,s.left ++ one x = D := ⟨_,rfl⟩;have hDs : D.size = s.left.size + 1 := by rw [← hD,ByteArray.size_append];rfl
 have HE : Hid (G8 s x = ({ s with left := (drain D.size D).2 },(drain D.size D).1)) := by rw [← hD];rfl
 generalize G8 s x = res at HE ⊢;clear h hT;go_enter Tryz.func81,Tryz.ntmps81;go_wp2_with fail;go_cut [4] from 6 to 16 (fun _ wx => Rd w0 R T { s with left := D } es wx N pv tv eqs)
 case first =>
  go_region_with (go_at_call 120;refine (Gz x _).mono ?_;rintro e W1 ⟨rfl,b1⟩;obtain ⟨d0,d1,d2,d3,d4,d5,d6,d7,df⟩ := (HH.out.below b1).cells;have df5 := df 5)
  all_goals go_wp2_with fail
  all_goals go_meet
  all_goals (rw [← hD];exact (HH.out.below b1).left (s.left ++ one x))
 case rest =>
  clear c0 c1 c2 c3 c4 c5 c6 c7 cf kd HH;have HC : Hid (Rd w0 R T { s with left := D } es wc N pv tv eqs) := hcut
  clear hcut;go_wp2_with fail;go_loopg [4] D.size (fun q _ wr => ∃ (D' : ByteArray) (pre : List Ev) (tv' : Value) (eqs' : List (Ev × Value)),D'.size ≤ q ∧ drain D.size D = (pre ++ (drain q D').1,(drain q D').2) ∧ pre.length + D'.size ≤ D.size ∧ Rd w0 R T { s with left := D' } (es ++ pre) wr N pv tv' eqs')
  case atStart => exact ⟨D,[],tv,eqs,qd _,rfl,by simp,by rw [List.append_nil];exact HC.out⟩
  case round =>
   obtain ⟨D',pre,tv',eqs',hq,hdr,hpl,hR⟩ := hrel;obtain ⟨c0,c1,c2,c3,c4,c5,c6,c7,cf⟩ := hR.cells;have HFR := Vy D' wr (HT.out _ hR.low);have HD : Hid (drain D.size D = (pre ++ (drain gk D').1,(drain gk D').2)) := hdr;have HRR : Hid (Rd w0 R T { s with left := D' } (es ++ pre) wr N pv tv' eqs') := hR
   clear hR hdr
   cases hf : full D' with
   | true =>
    rw [hf] at HFR;have hz := qfi hf;have ⟨p1,p2⟩ := qab D' hz;go_wp2_with fail;refine HFR.mono ?_;rintro e W1 ⟨rfl,b1⟩;have hR1 := HRR.out.below b1;have HN := qyb D' W1 (HT.out _ hR1.low) hz;obtain ⟨d0,d1,d2,d3,d4,d5,d6,d7,df⟩ := hR1.cells;clear c0 c1 c2 c3 c4 c5 c6 c7 cf;have HR1 : Hid (Rd w0 R T { s with left := D' } (es ++ pre) W1 N pv tv' eqs') := hR1
    clear hR1;go_wp2_with fail;refine HN.mono ?_;rintro e W2 ⟨rfl,b2⟩;have HP := Fb (Lib.decodeGo D').1 (HR1.out.below b2) (by rw [List.length_append];omega)
    clear d0 d1 d2 d3 d4 d5 d6 d7 df;go_wp2_with fail;refine HP.mono ?_;rintro e W3 ⟨rfl,tv3,eqs3,hR3⟩;obtain ⟨f0,f1,f2,f3,f4,f5,f6,f7,ff⟩ := hR3.cells;have ff5 := ff 5;have g1 : (0 : Int) ≤ ((Lib.decodeGo D').2 : Int) := by omega
    have g2 : ((Lib.decodeGo D').2 : Int) ≤ (D'.size : Int) := by omega
    have HR3 : Hid (Rd w0 R T { s with left := D' } (es ++ pre ++ [evP (Lib.decodeGo D').1]) W3 N pv tv3 eqs3) := hR3
    clear hR3;go_wp2_with fail;go_roundg (gk - 1)
    case measure => omega
    case rel =>
     have e1 := HD.out;rw [show gk = (gk - 1) + 1 by omega,qcm _ _ hf] at e1
     have hsz2 : (D'.extract (Lib.decodeGo D').2 D'.size).size = D'.size - (Lib.decodeGo D').2 := by rw [ByteArray.size_extract];omega
     refine ⟨D'.extract (Lib.decodeGo D').2 D'.size,pre ++ [evP (Lib.decodeGo D').1],tv3,eqs3,by rw [hsz2];omega,?_,by rw [hsz2,List.length_append,List.length_singleton];omega,?_⟩
     ·rw [e1, List.append_assoc]
      rfl
     ·rw [← List.append_assoc]
      exact HR3.out.left (D'.extract (Lib.decodeGo D').2 D'.size)
   | false =>
    rw [hf] at HFR;go_wp2_with fail;refine HFR.mono ?_;rintro e W1 ⟨rfl,b1⟩;go_wp2_with fail;go_end0;rw [HE.out];have e1 := HD.out;rw [Fe _ _ hf,List.append_nil] at e1;rw [e1];exact ⟨rfl,_,_,_,_,HRR.out.below b1⟩
theorem u8x : U8Extra qP Tryz.qec := { n3 := by kernel_rfl,n4 := by kernel_rfl,y3 := by kernel_rfl,y4 := by kernel_rfl,c5 := by kernel_rfl,c119 := by kernel_rfl,c138 := by kernel_rfl }
theorem qvy : Lib.firstData = Rows.laid_unicode_utf8_first := by kernel_rfl
theorem qu1 : Lib.acceptData = Rows.laid_unicode_utf8_acceptRanges := by kernel_rfl
def firstCells : Array Value := (Go.Pinned.utf8FirstZ.map fun (z : Nat) => Value.int .u8 (z : Int)).toArray
def acceptCells : Array Value := ((List.range 16).flatMap fun i => [Value.int .u8 (Lib.accLo i : Int),Value.int .u8 (Lib.accHi i : Int)]).toArray
theorem tabs_of_reads {W : World} (h3 : Lib.VarReads qP W "unicode/utf8.first" Rows.laid_unicode_utf8_first) (h4 : Lib.VarReads qP W "unicode/utf8.acceptRanges" Rows.laid_unicode_utf8_acceptRanges) : Tabs W := by
 rw [← qvy] at h3;rw [← qu1] at h4;exact utf8Tabs_of_reads Tryz.qzk u8x h3 h4
end Prs
namespace Put
open Grd (C SliceAt Qb Qf z0 Q0 flat Qe)
theorem qr1 {w V : World} {s : Scr} {cv tv gv : Value} {A : Array Value} {t t' : TypeId} (hb : Below w.heap.size w V) (h0 : V.heap[w.heap.size]? = some (.cells (scrA s cv tv gv) t (0, 0))) (h1 : V.heap[w.heap.size + 1]? = some (.cells A t' (0, 0))) {s' : Scr} {cv' tv' gv' : Value} :
  Below w.heap.size w (V.setRow (w.heap.size + 1) (scrA s' cv' tv' gv')) ∧ Zj (V.setRow (w.heap.size + 1) (scrA s' cv' tv' gv')) (.pointer (some ⟨w.heap.size,0,none⟩)) ∧ Z7 (V.setRow (w.heap.size + 1) (scrA s' cv' tv' gv')) (.pointer (some ⟨w.heap.size,0,none⟩)) = scrA s cv tv gv ∧ Zc (V.setRow (w.heap.size + 1) (scrA s' cv' tv' gv')) (.pointer (some ⟨w.heap.size + 1,0,none⟩)) := by
 have h2 : (V.setRow (w.heap.size + 1) (scrA s' cv' tv' gv')).heap[w.heap.size]? = _ := (setRow_other _ _ _ _ (by omega)).trans h0
 have h3 := setRow_heap V (w.heap.size + 1) A (scrA s' cv' tv' gv') t' _ h1;exact ⟨below_setRow hb (by omega) _,(Qs h2).1,(Qs h2).2,Zb h3 rfl⟩
section
attribute [local go_sem ↓] Xp Jg
attribute [local go_sem] G7 Xx Xy
theorem qnj (s s' : Scr) (cv tv gv : Value) (df : FuncId) (caps : Array Value) (w0 w : World) (hT : Txt.Tab w) (hV : Zh w0 s cv tv gv) (hb0 : Below w0.heap.size w0 w) (hF : Fits s)
  (hCH : ∀ W,Below w.heap.size w W → Calls qP 35 #[.agg (scrA s cv tv gv),.int .i64 (Qj s),.func (.func df) #[] caps] W (Made w0 W s' (Qj s))) :
  Calls qP 135 #[.agg (scrA s cv tv gv),.func (.func df) #[] caps] w (Made w0 w s' (Qj s)) := by
 obtain ⟨ca,cc,rfl⟩ := hV.c.shape;obtain ⟨ta,tc,rfl⟩ := hV.t.slice;obtain ⟨ga,gc,rfl⟩ := hV.g.slice;have hx0 : ((w.alloc (.cells (scS s ca cc ta tc ga gc) 32)).alloc (.cells zA 32)).heap[w.heap.size]? = some (.cells (scS s ca cc ta tc ga gc) 32 (0,0)) := (Below.heap_alloc _ _ _ (by simp)).trans (qf _ _)
 have hx1 : ((w.alloc (.cells (scS s ca cc ta tc ga gc) 32)).alloc (.cells zA 32)).heap[w.heap.size + 1]? = some (.cells zA 32 (0,0)) := heap_alloc2_new w _ _;have hkb : Below w.heap.size w ((w.alloc (.cells (scS s ca cc ta tc ga gc) 32)).alloc (.cells zA 32)) := ((qr _ _).alloc (qd _) _).alloc (by simp) _
 have hsz : ((w.alloc (.cells (scS s ca cc ta tc ga gc) 32)).alloc (.cells zA 32)).heap.size = w.heap.size + 2 := by simp
 have HX0 : Hid _ := hx0;have HX1 : Hid _ := hx1;have HKB : Hid _ := hkb;have HSZ : Hid _ := hsz;have HCK : Hid (∀ W,Below w.heap.size w W → Calls qP 6 #[.agg (scS s ca cc ta tc ga gc)] W fun e w' => e = .returned (.int .i64 (Qj s)) ∧ Below W.heap.size W w') := fun W hW => Zt s _ _ _ W (Grd.Tab.next hT hW) (hV.next (hb0.trans (hW.mono hb0.size))) hF
 have HCH : Hid (∀ W,Below w.heap.size w W → Calls qP 35 #[.agg (scS s ca cc ta tc ga gc),.int .i64 (Qj s),.func (.func df) #[] caps] W (Made w0 W s' (Qj s))) := hCH;have hM := hb0.size;clear hx0 hx1 hkb hV hF hT hCH hb0 hsz;generalize Qj s = er at *;go_enter Tryz.func135,Tryz.ntmps135;go_upto_region 1 with fail
 generalize ((w.alloc (.cells (scS s ca cc ta tc ga gc) 32)).alloc (.cells zA 32)) = X at *;have SK : Hid (∀ w',Below X.heap.size X w' → Below w.heap.size w w' ∧ Zj w' (.pointer (some ⟨w.heap.size,0,none⟩)) ∧ Z7 w' (.pointer (some ⟨w.heap.size,0,none⟩)) = (scS s ca cc ta tc ga gc) ∧ Zc w' (.pointer (some ⟨w.heap.size + 1,0,none⟩))) := fun w' hb => by
  have h0 := Grd.carry HX0.out hb;exact ⟨HKB.out.trans (hb.mono HKB.out.size),(Qs h0).1,(Qs h0).2,Zb (Grd.carry HX1.out hb) rfl⟩
 have b0 : Below X.heap.size X X.drew := (qr _ _).drew
 go_region_held3 (fun w' => Below w.heap.size w w' ∧ Zj w' (.pointer (some ⟨w.heap.size, 0, none⟩)) ∧ Z7 w' (.pointer (some ⟨w.heap.size, 0, none⟩)) = (scS s ca cc ta tc ga gc) ∧ Zc w' (.pointer (some ⟨w.heap.size + 1, 0, none⟩)))
  (first | exact KF.out | exact SK.out _ b2 | exact SK.out _ b1 | exact SK.out _ b0)
  (first | (go_at_call 6;refine (HCK.out _ (SK.out _ b0).1).mono ?_;rintro e V1 ⟨rfl,c1⟩;have b1 := b0.trans (c1.mono b0.size);clear c1) | (go_at_call 35;refine (HCH.out _ (SK.out _ b1).1).mono ?_;rintro e V2 ⟨cv',tv',gv',rfl,hO,c2⟩;have b2 := b1.trans (c2.mono b1.size);obtain ⟨a1,n1,c1,a2,n2,c2',a3,n3,c3,rfl,rfl,rfl⟩ := hO.shapes;have HO : Hid (Qo V2 0 _ s' _ _ _) := hO;clear c2 hO;have HR : Hid (V2.heap[w.heap.size + 1]? = _) := Grd.carry HX1.out b2;have KF : Hid (Below w.heap.size w (V2.setRow (w.heap.size + 1) (scT s' a1 n1 c1 a2 n2 c2' a3 n3 c3)) ∧ Zj (V2.setRow (w.heap.size + 1) (scT s' a1 n1 c1 a2 n2 c2' a3 n3 c3)) (.pointer (some ⟨w.heap.size,0,none⟩)) ∧ Z7 (V2.setRow (w.heap.size + 1) (scT s' a1 n1 c1 a2 n2 c2' a3 n3 c3)) (.pointer (some ⟨w.heap.size,0,none⟩)) = (scS s ca cc ta tc ga gc) ∧ Zc (V2.setRow (w.heap.size + 1) (scT s' a1 n1 c1 a2 n2 c2' a3 n3 c3)) (.pointer (some ⟨w.heap.size + 1,0,none⟩))) := qr1 (SK.out _ b2).1 (Grd.carry HX0.out b2) HR.out))
 go_wp2_with fail
 (try simp only [Exit.inBlock,Exit.then])
 refine bodyPost_ret (v := .tuple #[.agg (scT s' a1 n1 c1 a2 n2 c2' a3 n3 c3),.int .i64 er]) ?_ rfl ⟨_,_,_,rfl,?_,KF.out.1⟩
 ·exact Grd.Qd rfl _ _ (w.heap.size + 1) _ _ _ _ rfl (setRow_heap _ _ _ _ _ _ HR.out) Tryz.underlying32 rfl (by kernel_rfl) _ rfl
 ·exact (Qo.off HO.out HR.out Ql (by omega) fun k hk => setRow_other _ _ _ _ hk).mono (SK.out _ b1).1.size
end
end Put
end Go.Proofs.YtooobiigijphkaaGreatDoor
