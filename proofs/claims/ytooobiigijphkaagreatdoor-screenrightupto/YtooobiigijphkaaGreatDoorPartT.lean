/- Parts of the proof, shortened by a program. -/
import Derived.Test.YtooobiigijphkaaGreatDoorPartR
import Derived.Test.YtooobiigijphkaaGreatDoorPartS
import Derived.Maps.AppendAt
import Derived.Deep.Cut
import Derived.Laws.Tables
set_option maxHeartbeats 8000000
open List renaming setIfInBounds_toArray → qa, set_cons_zero → qb, set_cons_succ → qc, getD → qy
open Nat renaming le_refl → qd
open Go renaming heap_alloc_new → qf, wpList_store_row → qh, below_setRow → qi, setRow_heap → qj, bodyPost_ret → qk, wpAnyH_ready → qm
open Go.RowKit.Below renaming refl → qr
open Go.AllReadyH renaming nil → qt
open Go.Proofs.Tryz renaming prog → qP
open Go.Exit renaming inBlock → qv, «then» → qw
open Go.Act renaming put → qx
namespace Go.Proofs.YtooobiigijphkaaGreatDoor
set_option linter.unusedVariables false
set_option linter.unusedSimpArgs false
set_option maxRecDepth 100000
open Go.ChangeShapes Go.WideShapes Go.ChangeAt Go.RowKit
namespace Prs
theorem Kg {P : Program} {fn : Func} {p u v : Tmp} {ty : TypeId} (h : fn.results = #[.cell p ty, .tmp u, .tmp v]) (tmps : Array Value) (w : World) (g : Nat) (t : TypeId) (cs : Array Value) (fr : Nat × Nat) (d : TypeDesc)
  (hp : tmps.getD p undef = .pointer (some ⟨g,0,none⟩)) (hg : w.heap[g]? = some (.cells cs t fr))
  (hu : P.underlying ty = some d) (hd : (match d with | .struct _ | .array _ _ => true | _ => false) = true) (hi : (P.info? ty).map (·.size) = some cs.size) (x y : Value) (hx : tmps.getD u undef = x) (hy : tmps.getD v undef = y) :
  (results fn tmps).run P w = .ok (.tuple #[.agg cs,x,y]) w := by
 have hp' : tmps[p]?.getD undef = .pointer (some ⟨g,0,none⟩) := by simpa using hp
 have hx' : tmps[u]?.getD undef = x := by simpa using hx
 have hy' : tmps[v]?.getD undef = y := by simpa using hy
 simp [results,h,hp',hx',hy',asAddr,run_loadVar_row w g t ty cs fr d hg hu hd hi]
theorem set7 (W : World) (g : Nat) (a b c d e f h : Value) : ((((((W.setCell ⟨g,0,none⟩ a).setCell ⟨g,1,none⟩ b).setCell ⟨g,2,none⟩ c).setCell ⟨g,3,none⟩ d).setCell ⟨g,4,none⟩ e).setCell ⟨g,5,none⟩ f).setCell ⟨g,6,none⟩ h = W.setCells g 0 [a,b,c,d,e,f,h] := rfl
def stV (s : St) (pv : Value) : Value := .agg (sAq s pv)
def EvsV (w : World) (base : Nat) (v : Value) (es : List Ev) : Prop := ∃ eqs : List (Ev × Value),w.ownsRow base 71 7 v es.length (Fp eqs) ∧ eqs.map (·.1) = es ∧ ∀ x,x ∈ eqs → w.ownsRow base 3 1 x.2 x.1.ps.length (ints x.1.ps)
theorem qt6 (s : St) (b : ByteArray) (k : Nat) (hk : k < b.size) : feed s (b.data.toList.take (k + 1)) = ((take (feed s (b.data.toList.take k)).1 b[k]).1,(feed s (b.data.toList.take k)).2 ++ (take (feed s (b.data.toList.take k)).1 b[k]).2) := by
 have hl : k < b.data.toList.length := by rw [Array.length_toList];exact hk
 rw [List.take_succ_eq_append_getElem hl,qud]
 rfl
theorem qzc (s : St) (pv : Value) (b : ByteArray) (w : World) (hT : Tabs w) (hI : Qv w pv s.ps) (hF : Fit s) (hm : s.mid.size ≤ 1000) (ht : s.txt.size ≤ 1000) (hl : s.left.size ≤ 1000) (hb : b.size ≤ 4000)
  (HCK : ∀ W,Below w.heap.size w W → Calls qP 25 #[stV s pv] W fun e W' => e = .returned (.bool true) ∧ Below W.heap.size W W') :
  Calls qP 9 #[stV s pv,.string b] w fun e w' => ∃ pv' tv',e = .returned (.tuple #[stV (feed s b.data.toList).1 pv',tv',.int .i64 0]) ∧ w'.ownsRow w.heap.size 3 1 pv' (feed s b.data.toList).1.ps.length (ints (feed s b.data.toList).1.ps) ∧ EvsV w' w.heap.size tv' (feed s b.data.toList).2 ∧ Below w.heap.size w w' := by
 unfold stV at HCK ⊢;have x0 : ((w.alloc (.cells (sAq s pv) 35)).alloc (.cells zSq 35)).heap[w.heap.size]? = some (.cells (sAq s pv) 35 (0,0)) := qao _ _ (qf w _);have x1 := qcf w (.cells (sAq s pv) 35) (.cells zSq 35);have kk := Kh w (.cells (sAq s pv) 35) (.cells zSq 35);generalize hW0 : ((w.alloc (.cells (sAq s pv) 35)).alloc (.cells zSq 35)) = W0 at x0 x1 kk;have HW0 : Hid (_ = W0) := hW0;have HI : Hid (Qv w pv s.ps) := hI;have HF : Hid (Fit s) := hF;have HT : Hid (Tabs w) := hT;have HK : Hid (∀ W,Below w.heap.size w W → Calls qP 25 #[.agg (sAq s pv)] W fun e W' => e = .returned (.bool true) ∧ Below W.heap.size W W') := HCK
 have h16 : s.ps.length ≤ 16 := hF.2.2.2.1;have hb1 : ¬ (4000 : Int) < (b.size : Int) := by omega
 clear hW0 hI hF hT HCK;go_enter Tryz.func9,Tryz.ntmps9;go_wp2_with fail;rw [HW0.out];refine (HK.out _ kk).mono ?_;rintro e W2 ⟨rfl,b2⟩;have y0 := stay x0 b2;have y1 := stay x1 b2;have k2 := kk.trans (b2.mono kk.size);clear x0 x1 kk HW0 b2;have kT : Below W2.heap.size W2 (W2.alloc (.cells #[.slice none 0 0] 44)) := (qr _ _).alloc (qd _) _;obtain ⟨c0,c1,c2,c3,c4,c5,c6,cf⟩ := Z8 (stay y0 kT)
 have HCP := qqv s pv (W2.alloc (.cells #[.slice none 0 0] 44)) (by
  rcases HI.out with h | ⟨b',o',c',hv,hc⟩
  ·exact .inl h
  ·refine .inr ⟨b', o', c', hv, fun j u hj => ?_⟩
   have h1 := hc j u hj;rw [Addr.add_mid] at h1 ⊢
   exact Qa (k2.trans (kT.mono k2.size)) h1) h16 hm ht hl
 have HTc : Hid (W2.alloc (.cells #[.slice none 0 0] 44) = W2.alloc (.cells #[.slice none 0 0] 44)) := rfl;have hTn := qf W2 (.cells #[.slice none 0 0] 44);have sT : (W2.alloc (.cells #[.slice none 0 0] 44)).heap.size = W2.heap.size + 1 := by simp
 have y1T := stay y1 kT;clear y0;go_wp2_with fail;refine HCP.mono ?_;rintro e W3 ⟨pv3,rfl,own3,b3⟩;obtain ⟨pa,pc,rfl⟩ := Gg own3;have hT3 := stay hTn b3;have y3 := stay y1T b3;have k3 : Below W2.heap.size W2 W3 := kT.trans (b3.mono kT.size);have HOW : Hid (W3.ownsRow (W2.alloc (.cells #[.slice none 0 0] 44)).heap.size 3 1 (.slice pa s.ps.length pc) s.ps.length (ints s.ps)) := own3;clear c0 c1 c2 c3 c4 c5 c6 cf HCP own3 hTn y1T
 go_wp2_with (refine qh rfl 74 (.tmp 8) _ rfl W3.heap.size #[.int .i64 s.at', .int .u8 s.mark, .string s.mid, .slice pa s.ps.length pc, .string s.txt, .string s.left, .bool s.late, .func (.func 27) #[] #[.pointer (some ⟨W2.heap.size, 0, none⟩)]] rfl rfl _ _ (qf W3 _) (by kernel_rfl) rfl (by simp [Value.oneCell']) ?_
              have hX := qj (W3.alloc (.cells #[.int .i64 0,.int .u8 0,.string ⟨#[]⟩,.slice none 0 0,.string ⟨#[]⟩,.string ⟨#[]⟩,.bool false,.nilFunc] 74)) W3.heap.size _ #[.int .i64 s.at',.int .u8 s.mark,.string s.mid,.slice pa s.ps.length pc,.string s.txt,.string s.left,.bool s.late,.func (.func 27) #[] #[.pointer (some ⟨W2.heap.size,0,none⟩)]] _ _ (qf W3 _);have kX : Below W3.heap.size W3 ((W3.alloc (.cells #[.int .i64 0,.int .u8 0,.string ⟨#[]⟩,.slice none 0 0,.string ⟨#[]⟩,.string ⟨#[]⟩,.bool false,.nilFunc] 74)).setRow W3.heap.size #[.int .i64 s.at',.int .u8 s.mark,.string s.mid,.slice pa s.ps.length pc,.string s.txt,.string s.left,.bool s.late,.func (.func 27) #[] #[.pointer (some ⟨W2.heap.size,0,none⟩)]]) := qi ((qr _ _).alloc (qd _) _) (qd _) _
              generalize ((W3.alloc (.cells #[.int .i64 0,.int .u8 0,.string ⟨#[]⟩,.slice none 0 0,.string ⟨#[]⟩,.string ⟨#[]⟩,.bool false,.nilFunc] 74)).setRow W3.heap.size #[.int .i64 s.at',.int .u8 s.mark,.string s.mid,.slice pa s.ps.length pc,.string s.txt,.string s.left,.bool s.late,.func (.func 27) #[] #[.pointer (some ⟨W2.heap.size,0,none⟩)]]) = X at *)
 have hRd : Rd W2 W3.heap.size W2.heap.size s [] X W2.heap.size (.slice pa s.ps.length pc) (.slice none 0 0) [] := by
  refine ⟨k3.trans (kX.mono k3.size),k3.size,qd _,hX,stay hT3 kX,?_,World.ownsRow_nil _ _ _ _,rfl,fun x hx => absurd hx (by simp),qd _,Nat.le_trans k3.size kX.size⟩
  refine qfu (Jf HOW.out fun g hg => ?_) (by omega)
  obtain ⟨A,hA⟩ := Xz HOW.out hg;exact kX.block g (Xj hA)
 have HR : Hid (Rd W2 W3.heap.size W2.heap.size s [] X W2.heap.size (.slice pa s.ps.length pc) (.slice none 0 0) []) := hRd;have HT2 : Hid (Tabs W2) := HT.out.next k2;have HY : Hid (W2.heap[w.heap.size + 1]? = _) := y1;have hyl := Xj y1;have HK2 : Hid (Below w.heap.size w W2) := k2;clear hX kX hT3 y3 k3 HOW hRd b3 kT y1 k2 HTc;go_loopg [24] b.size (fun q i wr => ∃ k : Nat,i = .int .i64 (k : Int) ∧ k ≤ b.size ∧ b.size - k ≤ q ∧ RdE W2 W3.heap.size W2.heap.size (feed s (b.data.toList.take k)).1 (feed s (b.data.toList.take k)).2 wr ∧ Fit (feed s (b.data.toList.take k)).1 ∧ (feed s (b.data.toList.take k)).2.length + (feed s (b.data.toList.take k)).1.left.size ≤ k + s.left.size)
 case atStart => exact ⟨0,rfl,by omega,by omega,⟨_,_,_,_,HR.out⟩,HF.out,by simp [feed]⟩
 case round =>
  obtain ⟨k,rfl,hk,hq,hRE,hFit,hlen⟩ := hrel
  by_cases hlt : k < b.size
  ·have lt1 : ((k : Int) < (b.size : Int)) := by omega
   have HN := qt6 s b k hlt;have HTK := qym (b[k]) HT2.out hRE (by omega) hFit
   have htot := qm5 (feed s (b.data.toList.take k)).1 b[k];have hfit2 := qx5 (feed s (b.data.toList.take k)).1 b[k] hFit;have HNX : Hid (Fit (feed s (b.data.toList.take (k + 1))).1 ∧ (feed s (b.data.toList.take (k + 1))).2.length + (feed s (b.data.toList.take (k + 1))).1.left.size ≤ k + 1 + s.left.size) := by
    rw [HN];exact ⟨hfit2,by simp only [List.length_append];omega⟩
   have HTK2 : Hid (Calls qP 28 #[.pointer (some ⟨W3.heap.size,0,none⟩),.int .u8 (b[k].toNat : Int)] wr fun e W' => e = .returned (.tuple #[]) ∧ RdE W2 W3.heap.size W2.heap.size (feed s (b.data.toList.take (k + 1))).1 (feed s (b.data.toList.take (k + 1))).2 W') := by
    rw [HN];exact HTK
   clear hRE hFit hlen HN HTK htot hfit2 HR;go_wp2_with fail;refine HTK2.out.mono ?_;rintro e W5 ⟨rfl,h5⟩;go_wp2_with fail;go_roundg (b.size - (k + 1))
   case measure => omega
   case rel => exact ⟨k + 1,rfl,by omega,by omega,h5,HNX.out.1,HNX.out.2⟩
  ·have lt1 : ¬ ((k : Int) < (b.size : Int)) := by omega
   have hkb : b.data.toList.take k = b.data.toList := List.take_of_length_le (by rw [Array.length_toList];show b.size ≤ k;omega)
   rw [hkb] at hRE;have HGoal : ∀ s' es',feed s b.data.toList = (s',es') → True := fun _ _ _ => trivial
   obtain ⟨s',es',hfe⟩ : ∃ s' es',feed s b.data.toList = (s',es') := ⟨_,_,rfl⟩;rw [hfe] at hRE;have HFE : Hid (feed s b.data.toList = (s',es')) := hfe;obtain ⟨N,pv',tv',eqs',hR⟩ := hRE
   (try simp only at hR)
   obtain ⟨c0,c1,c2,c3,c4,c5,c6,c7,cf⟩ := hR.cells;have ct := (cell1 hR.t).1;have hy : wr.heap[w.heap.size + 1]? = _ := (hR.low.block _ hyl).trans HY.out;obtain ⟨d0,d1,d2,d3,d4,d5,d6,df⟩ := Z8 hy;have df0 := df 0;have df1 := df 1;have df2 := df 2;have df3 := df 3;have df4 := df 4;have df5 := df 5;have df6 := df 6;obtain ⟨pa',pc',rfl⟩ := Gg hR.p;obtain ⟨ta',tc',rfl⟩ := Gg hR.e;have HYR : Hid (wr.heap[w.heap.size + 1]? = _) := hy;have HRR : Hid (Rd W2 W3.heap.size W2.heap.size s' es' wr N _ _ eqs') := hR;clear hR hFit hlen HR hlt HGoal hfe hkb;have hYr : (wr.setCells (w.heap.size + 1) 0 [.int .i64 s'.at',.int .u8 s'.mark,.string s'.mid,.slice pa' s'.ps.length pc',.string s'.txt,.string s'.left,.bool s'.late]).heap[w.heap.size + 1]? = some (.cells #[.int .i64 s'.at',.int .u8 s'.mark,.string s'.mid,.slice pa' s'.ps.length pc',.string s'.txt,.string s'.left,.bool s'.late] 35 (0,0)) := Uq (w.heap.size + 1) 35 [.int .i64 s'.at',.int .u8 s'.mark,.string s'.mid,.slice pa' s'.ps.length pc',.string s'.txt,.string s'.left,.bool s'.late] 0 wr _ HYR.out (by simp)
   have hks := HK2.out.size;have hrow : ∀ {base : Nat} {e : TypeId} {size : Nat} {v : Value} {n : Nat} {xs : List Value},wr.ownsRow base e size v n xs → e ≠ 35 → w.heap.size ≤ base → (wr.setCells (w.heap.size + 1) 0 [.int .i64 s'.at',.int .u8 s'.mark,.string s'.mid,.slice pa' s'.ps.length pc',.string s'.txt,.string s'.left,.bool s'.late]).ownsRow w.heap.size e size v n xs := fun ho hne hbase => by
    refine qfu (Jf ho fun g hg => ?_) hbase
    obtain ⟨A,hA⟩ := Xz ho hg;refine Zv _ _ (fun e1 => ?_) _ _ _
    rw [e1,HYR.out] at hA;injection hA with hA
    injection hA with _ hA
    exact hne hA.symm
   have hlow : Below w.heap.size w (wr.setCells (w.heap.size + 1) 0 [.int .i64 s'.at',.int .u8 s'.mark,.string s'.mid,.slice pa' s'.ps.length pc',.string s'.txt,.string s'.left,.bool s'.late]) := Zr (by omega) _ _ _ (HK2.out.trans (HRR.out.low.mono hks))
   obtain ⟨Y,hY⟩ : ∃ Y,wr.setCells (w.heap.size + 1) 0 [.int .i64 s'.at',.int .u8 s'.mark,.string s'.mid,.slice pa' s'.ps.length pc',.string s'.txt,.string s'.left,.bool s'.late] = Y := ⟨_,rfl⟩;rw [hY] at hYr hlow;have HP : Hid (Y.ownsRow w.heap.size 3 1 (.slice pa' s'.ps.length pc') s'.ps.length (ints s'.ps)) := by
    have q := hrow HRR.out.p (by decide) (Nat.le_trans hks HRR.out.n0)
    rw [hY] at q;exact q
   have HE : Hid (EvsV Y w.heap.size (.slice ta' es'.length tc') es') := by
    refine ⟨eqs',?_,HRR.out.es,fun x hx => ?_⟩
    ·have q := hrow HRR.out.e (by decide) hks
     rw [hY] at q;exact q
    ·have q := hrow (HRR.out.q x hx).1 (by decide) hks
     rw [hY] at q;exact q
   have HYY : Hid (_ = Y) := hY;have HLO : Hid (Below w.heap.size w Y) := hlow;have HYC : Hid (Y.heap[w.heap.size + 1]? = _) := hYr;clear hY hlow hYr hrow HRR HYR;go_wp2_with fail;go_region;go_wp2_with fail
   (try simp only [qv,qw])
   rw [set7,HYY.out,HFE.out];refine qk (v := .tuple #[.agg #[.int .i64 s'.at',.int .u8 s'.mark,.string s'.mid,.slice pa' s'.ps.length pc',.string s'.txt,.string s'.left,.bool s'.late],.slice ta' es'.length tc',.int .i64 0]) ?_ rfl ⟨_,_,rfl,HP.out,HE.out,HLO.out.drew⟩;exact Kg rfl _ Y.drew (w.heap.size + 1) _ _ _ _ rfl (show Y.drew.heap[w.heap.size + 1]? = _ from HYC.out) Tryz.underlying35 rfl (by kernel_rfl) _ _ rfl rfl
theorem qa5 {w : World} {base : Nat} {e : TypeId} {size : Nat} {v : Value} {n : Nat} {xs : List Value} (h : w.ownsRow base e size v n xs) : (v = .slice none 0 0 ∧ n = 0 ∧ xs = []) ∨ ∃ g cap,v = .slice (some ⟨g,0,none⟩) n cap ∧ ∀ j u,xs[j]? = some u → w.cell? ⟨g,j,none⟩ = some u := by
 obtain ⟨hl,h | ⟨g,cap,cur,rfl,-,hg,-,-,-,hcur⟩⟩ := h
 ·obtain ⟨rfl, rfl⟩ := h
  exact .inl ⟨rfl,rfl,List.eq_nil_of_length_eq_zero (by rw [hl,Nat.zero_mul])⟩
 ·refine .inr ⟨g, cap, rfl, fun j u hj => ?_⟩
  have h1 := cells_of_block (W := w) (g := g) (L := cur.toList) (t := e) (by rw [Array.toArray_toList]; exact hg) j u (by
   rw [← hcur] at hj;rw [List.getElem?_take] at hj;split at hj
   ·exact hj
   ·simp at hj)
  rw [Addr.add_mid,Nat.zero_add] at h1;exact h1
theorem qdw {w : World} {base : Nat} {v : Value} {l : List Int} (h : w.ownsRow base 3 1 v l.length (ints l)) : Qv w v l := by
 rcases qa5 h with ⟨rfl,h0,-⟩ | ⟨g,cap,rfl,hc⟩
 ·exact .inl ⟨List.eq_nil_of_length_eq_zero h0,_,_,rfl⟩
 ·refine .inr ⟨g, 0, cap, rfl, fun j u hj => ?_⟩
  rw [Addr.add_mid,Nat.zero_add];exact hc j u hj
theorem qhp : ∀ (l : List (Ev × Value)) (i j : Nat) (hi : i < l.length), j < 7 → (Fp l)[7 * i + j]? = (Vd l[i].1 l[i].2)[j]?
 | x :: l,0,j,_,hj => by
  show (Vd x.1 x.2 ++ Fp l)[7 * 0 + j]? = _
  rw [Nat.mul_zero,Nat.zero_add,List.getElem?_append_left (by simpa [Vd] using hj)]
  rfl
 | x :: l,i + 1,j,hi,hj => by
  show (Vd x.1 x.2 ++ Fp l)[7 * (i + 1) + j]? = _
  rw [List.getElem?_append_right (by simp [Vd];omega)]
  have e7 : (Vd x.1 x.2).length = 7 := rfl;rw [e7,show 7 * (i + 1) + j - 7 = 7 * i + j by omega,qhp l i j (by simpa using hi) hj]
  rfl
structure EvAt (w : World) (b o : Nat) (e : Ev) (q : Value) : Prop where
 ps : Qv w q e.ps
 c0 : w.cell? ⟨b,o,none⟩ = some (.int .i64 e.kind)
 c1 : w.cell? ⟨b,o + 1,none⟩ = some (.int .i32 e.r)
 c2 : w.cell? ⟨b,o + 2,none⟩ = some (.int .u8 e.fin)
 c3 : w.cell? ⟨b,o + 3,none⟩ = some (.int .u8 e.mark)
 c4 : w.cell? ⟨b,o + 4,none⟩ = some (.string e.mid)
 c5 : w.cell? ⟨b,o + 5,none⟩ = some q
 c6 : w.cell? ⟨b,o + 6,none⟩ = some (.string e.txt)
def EvsR (w : World) (v : Value) (es : List Ev) : Prop := (es = [] ∧ ∃ p c,v = .slice p 0 c) ∨ ∃ b o c,v = .slice (some ⟨b,o,none⟩) es.length c ∧ ∀ i (hi : i < es.length),∃ q,EvAt w b (o + i * 7) es[i] q
theorem EvAt.next {w w' : World} {b o : Nat} {e : Ev} {q : Value} (h : EvAt w b o e q) (hb : Below w.heap.size w w') : EvAt w' b o e q :=
 ⟨h.ps.next hb,Qa hb h.c0,Qa hb h.c1,Qa hb h.c2,Qa hb h.c3,Qa hb h.c4,Qa hb h.c5,Qa hb h.c6⟩
theorem EvsR.slice {w : World} {v : Value} {es : List Ev} (h : EvsR w v es) : ∃ p c,v = .slice p es.length c := by
 rcases h with ⟨rfl,p0,n0,rfl⟩ | ⟨b,o,c,rfl,-⟩
 ·exact ⟨_,_,rfl⟩
 ·exact ⟨_,_,rfl⟩
theorem EvsV.read {w : World} {base : Nat} {v : Value} {es : List Ev} (h : EvsV w base v es) : EvsR w v es := by
 obtain ⟨eqs,hown,rfl,hq⟩ := h
 rcases qa5 hown with ⟨rfl,h0,-⟩ | ⟨g,cap,rfl,hc⟩
 ·exact .inl ⟨List.eq_nil_of_length_eq_zero h0,_,_,rfl⟩
 ·refine .inr ⟨g, 0, cap, rfl, fun i hi => ?_⟩
  have hi' : i < eqs.length := by simpa using hi
  have hg : ∀ j,j < 7 → ∀ u,(Vd eqs[i].1 eqs[i].2)[j]? = some u → w.cell? ⟨g,0 + i * 7 + j,none⟩ = some u := fun j hj u hu => by
   have := hc (7 * i + j) u (by rw [qhp eqs i j hi' hj];exact hu)
   rw [show 0 + i * 7 + j = 7 * i + j by omega]
   exact this
  have hm : (eqs.map (·.1))[i]'hi = eqs[i].1 := by simp
  rw [hm];exact ⟨eqs[i].2,qdw (hq _ (List.getElem_mem hi')),hg 0 (by omega) _ rfl,hg 1 (by omega) _ rfl,hg 2 (by omega) _ rfl,hg 3 (by omega) _ rfl,hg 4 (by omega) _ rfl,hg 5 (by omega) _ rfl,hg 6 (by omega) _ rfl⟩
def zeroV : Value := .agg zSq
theorem qw6 (s : St) (pv : Value) (b : ByteArray) (w : World) (hT : Tabs w) (hI : Qv w pv s.ps) (hm : s.mid.size ≤ 9223372036854775807) (ht : s.txt.size ≤ 9223372036854775807) (n : Int) (hn : (okS s = false ∧ n = 5) ∨ (okS s = true ∧ 4000 < b.size ∧ n = 2)) :
  Calls qP 9 #[.agg (sAq s pv),.string b] w fun e w' => e = .returned (.tuple #[zeroV,.slice none 0 0,.int .i64 n]) ∧ Below w.heap.size w w' := by
 unfold zeroV;have x0 : ((w.alloc (.cells (sAq s pv) 35)).alloc (.cells zSq 35)).heap[w.heap.size]? = some (.cells (sAq s pv) 35 (0,0)) := qao _ _ (qf w _);have x1 := qcf w (.cells (sAq s pv) 35) (.cells zSq 35);have kk := Kh w (.cells (sAq s pv) 35) (.cells zSq 35);have HCK := Xd s pv _ (hT.next kk) (hI.next kk) hm ht;obtain ⟨c0,c1,c2,c3,c4,c5,c6,cf⟩ := Z8 x0;have HX1 : Hid _ := x1;have HKK : Hid _ := kk;clear x0 x1 kk hT hI hm ht cf
 rcases hn with ⟨ho,rfl⟩ | ⟨ho,hb,rfl⟩
 ·rw [ho] at HCK
  go_enter Tryz.func9,Tryz.ntmps9;go_wp2_with fail;refine HCK.mono ?_;rintro e W1 ⟨rfl,b1⟩;have y1 := stay HX1.out b1;have HK1 : Hid (Below w.heap.size w W1) := HKK.out.trans (b1.mono HKK.out.size);clear b1 HX1 HKK c0 c1 c2 c3 c4 c5 c6;go_wp2_with (refine qh rfl 35 (.tmp 4) _ rfl (w.heap.size + 1) zSq rfl rfl _ _ y1 (by kernel_rfl) rfl (by simp [Value.oneCell']) ?_)
  (try simp only [qv,qw])
  refine qk (v := .tuple #[.agg zSq,.slice none 0 0,.int .i64 5]) ?_ rfl ⟨rfl,qi HK1.out (by omega) _⟩
  exact Kg rfl _ _ (w.heap.size + 1) _ _ _ _ rfl (qj _ _ _ _ _ _ y1) Tryz.underlying35 rfl (by kernel_rfl) _ _ rfl rfl
 ·rw [ho] at HCK
  have hb1 : (4000 : Int) < (b.size : Int) := by omega
  go_enter Tryz.func9,Tryz.ntmps9;go_wp2_with fail;refine HCK.mono ?_;rintro e W1 ⟨rfl,b1⟩;have y1 := stay HX1.out b1;have HK1 : Hid (Below w.heap.size w W1) := HKK.out.trans (b1.mono HKK.out.size);clear b1 HX1 HKK c0 c1 c2 c3 c4 c5 c6;go_wp2_with (refine qh rfl 35 (.tmp 4) _ rfl (w.heap.size + 1) zSq rfl rfl _ _ y1 (by kernel_rfl) rfl (by simp [Value.oneCell']) ?_)
  (try simp only [qv,qw])
  refine qk (v := .tuple #[.agg zSq,.slice none 0 0,.int .i64 2]) ?_ rfl ⟨rfl,qi HK1.out (by omega) _⟩
  exact Kg rfl _ _ (w.heap.size + 1) _ _ _ _ rfl (qj _ _ _ _ _ _ y1) Tryz.underlying35 rfl (by kernel_rfl) _ _ rfl rfl
end Prs
namespace Put
open Grd (C SliceAt Qb Qf z0 Q0 flat Qe)
open Prs (Qv)
theorem qd5 : Tryz.prog.underlying 51 = some (.slice 49) := by kernel_rfl
theorem qgy : (Tryz.prog.info? 49).map (fun i => (i.zero,i.size,i.bytes)) = some (some .nilFunc,1,8) := by kernel_rfl
structure One1 (E : World → Prop) (base : Nat) (W : World) (v : Value) (x : Value × Phi) : Prop where
 is : ∃ wa wb fid caps,x.1 = .func (.func fid) #[] caps ∧ (∀ X,Xg wa wb X → E X → Jm X fid caps x.2) ∧ Xg wa wb W ∧ (∀ g,v.ownBlock = some g → g < wa.heap.size ∨ wb.heap.size ≤ g) ∧ base ≤ wa.heap.size
 keeps : Xf x.2
structure SL (E : World → Prop) (base : Nat) (W : World) (v : Value) (L : List (Value × Phi)) : Prop where
 own : W.ownsRow base 49 1 v L.length (L.map (·.1))
 all : ∀ x,x ∈ L → One1 E base W v x
theorem SL.nil (E : World → Prop) (base : Nat) (W : World) : SL E base W (.slice none 0 0) [] := ⟨World.ownsRow_nil _ _ _ _,fun x hx => absurd hx List.not_mem_nil⟩
theorem SL.next {E : World → Prop} {base : Nat} {W W' : World} {v : Value} {L : List (Value × Phi)} (h : SL E base W v L) (hb : Below W.heap.size W W') : SL E base W' v L := by
 refine ⟨Grd.ownsRow_below h.own hb,fun x hx => ?_⟩
 obtain ⟨⟨wa,wb,fid,caps,h1,h2,h3,h4,h5⟩,hk⟩ := h.all x hx;exact ⟨⟨wa,wb,fid,caps,h1,h2,h3.on hb,h4,h5⟩,hk⟩
theorem SL.steps {E : World → Prop} {base : Nat} {w W X : World} {v : Value} {L : List (Value × Phi)} (h : SL E base W v L) (hw : w.heap.size ≤ base) (hf : Xg w W X) (hE : E X) : Yz X v (L.map (·.2)) := by
 by_cases hL : L = []
 ·subst hL
  refine .inl ⟨rfl,?_⟩;obtain ⟨a,c,hv⟩ := Qz h.own;exact ⟨a,c,hv⟩
 rcases Prs.qa5 h.own with ⟨-,h0,-⟩ | ⟨gb,gc,hv,hcell⟩
 ·exact absurd (List.eq_nil_of_length_eq_zero h0) hL
 obtain ⟨hgb,A,fr,hA⟩ := Qn h.own gb (by rw [hv];rfl)
 have hX : X.heap[gb]? = W.heap[gb]? := hf.2 gb (Nat.le_trans hw hgb) (Qc hA);refine .inr ⟨gb,0,gc,by rw [List.length_map];exact hv,fun j hj => ?_⟩
 rw [List.length_map] at hj;have hx : L[j] ∈ L := List.getElem_mem hj;have hc := hcell j L[j].1 (by simp [hj])
 obtain ⟨⟨wa,wb,fid,caps,h1,h2,h3,h4,h5⟩,hk⟩ := h.all _ hx;refine ⟨L[j].1,?_,fid,caps,h1,?_⟩
 ·rw [Nat.zero_add, ← hc]
  unfold World.cell?;simp only [hX]
 ·have e : (L.map (·.2)).getD j phId = L[j].2 := by simp [qy, hj]
  rw [e];exact h2 X ⟨Nat.le_trans h3.1 hf.1,fun k hk hl => (hf.2 k (Nat.le_trans hw (Nat.le_trans h5 hk)) (Nat.lt_of_lt_of_le hl h3.1)).trans (h3.2 k hk hl)⟩ hE
theorem SL.append {E : World → Prop} {base : Nat} {W W2 W4 : World} {v v3 : Value} {L : List (Value × Phi)} {fid : FuncId} {caps : Array Value} {f : Phi} {o : Obj} (h : SL E base W v L) (h1 : ∀ X, Xg W W2 X → E X → Jm X fid caps f) (hk : Xf f) (hb : Below W.heap.size W W2) (hbase : base ≤ W.heap.size)
  (hown : W4.ownsRow base 49 1 v3 (L.length + 1) (L.map (·.1) ++ [.func (.func fid) #[] caps])) (hg : (W2.alloc o).grownBy W4 v.ownBlock) (hat : v3.ownBlock = v.ownBlock ∨ v3.ownBlock = some (W2.alloc o).heap.size) : SL E base W4 v3 (L ++ [(.func (.func fid) #[] caps,f)]) := by
 have h3 : Below W2.heap.size W2 (W2.alloc o) := (qr _ _).alloc (qd _) _;have hsz := hb.size;have hs3 := h3.size;have hlt : ∀ g,v.ownBlock = some g → g < W.heap.size := fun g hg => by
  obtain ⟨-,A,fr,hA⟩ := Qn h.own g hg;exact Qc hA
 have key : ∀ wa wb : World,Xg wa wb W2 → (∀ g,v.ownBlock = some g → g < wa.heap.size ∨ wb.heap.size ≤ g) → Xg wa wb W4 := fun wa wb hf hn => by
  have hf3 := hf.on h3;refine ⟨Nat.le_trans hf3.1 hg.size,fun k hk hl => ?_⟩
  rw [hg.block k (Nat.lt_of_lt_of_le hl hf3.1) (fun e => by rcases hn k e.symm with q | q <;> omega)]
  exact hf3.2 k hk hl
 refine ⟨by rw [List.length_append,List.map_append];exact hown,fun x hx => ?_⟩
 rcases List.mem_append.1 hx with hx | hx
 ·obtain ⟨⟨wa, wb, fid, caps, e1, e2, e3, e4, e5⟩, hk⟩ := h.all x hx
  refine ⟨⟨wa,wb,fid,caps,e1,e2,key wa wb (e3.on hb) e4,fun g hg3 => ?_,e5⟩,hk⟩
  rcases hat with q | q
  ·exact e4 g (q.symm.trans hg3)
  ·rw [q] at hg3
   injection hg3 with hg3
   exact .inr (by have := e3.1;omega)
 ·rw [List.mem_singleton.1 hx]
  refine ⟨⟨W,W2,fid,caps,rfl,h1,key W W2 (Xg.refl _ _) (fun g hg => .inl (hlt g hg)),fun g hg3 => ?_,hbase⟩,hk⟩
  rcases hat with q | q
  ·exact .inl (hlt g (q.symm.trans hg3))
  ·rw [q] at hg3
   injection hg3 with hg3
   exact .inr (by omega)
theorem Ug (m : Int) (on : Bool) (k : Int) (l : List Int) : Xr m on (k :: l) = if Gq m k = 0 then Xr m on l else qex (Gq m k) (on != decide (Gq m k = 8)) :: Xr m on l := rfl
theorem qbo (m : Int) (on : Bool) : ∀ (a b : List Int), Xr m on (a ++ b) = Xr m on a ++ Xr m on b
 | [],b => rfl
 | k :: a,b => by
  rw [List.cons_append,Ug,Ug,qbo m on a b];split
  ·rfl
  ·rfl
theorem qf4 (m : Int) (on : Bool) : ∀ (a : List Int), (Xr m on a).length ≤ a.length
 | [] => qd _
 | k :: a => by
  have := qf4 m on a;rw [Ug];split
  ·rw [List.length_cons]
   omega
  ·rw [List.length_cons, List.length_cons]
   omega
theorem qb1 (m k : Int) : 0 ≤ bits .and .i64 (Gq m k) 63 ∧ bits .and .i64 (Gq m k) 63 ≤ 63 := by
 unfold Gq
 repeat' split
 all_goals exact ⟨by decide,by decide⟩
theorem qiv (b : Int) (on : Bool) (h0 : 0 ≤ bits .and .i64 b 63) (h1 : bits .and .i64 b 63 ≤ 63) : Xf (qex b on) := (qww b on h0 h1).keeps
theorem qi5 (l : List Int) (i : Nat) (h : i < l.length) : l.take (i + 1) = l.take i ++ [l.getD i 0] := by
 rw [List.take_add_one,qy,List.getElem?_eq_getElem h]
 rfl
theorem ql6 (m : Int) (ps : List Int) (p : Option Addr) (c : Nat) (on : Bool) (w : World) (hI : Qv w (.slice p ps.length c) ps) (hl : ps.length ≤ 16) : Calls qP 97 #[.int .u8 m,.slice p ps.length c,.bool on] w (Zn Any1 w (Qu (Xr m on ps))) := by
 obtain ⟨i0,hi,hzz⟩ := Option.map_eq_some_iff.1 qgy;simp only [Prod.mk.injEq] at hzz;obtain ⟨hz0,hz1,hz2⟩ := hzz;have hb1 : Below w.heap.size w (w.alloc (.cells #[.bool on] 4)) := (qr _ _).alloc (qd _) _;have hx1 := qf w (.cells #[.bool on] 4);have HB1 : Hid _ := hb1;have HX1 : Hid _ := hx1;have HI : Hid (∀ X,Below w.heap.size w X → ∀ i,i < ps.length → ∃ b o,p = some ⟨b,o,none⟩ ∧ X.cell? ⟨b,o + i,none⟩ = some (.int .i64 (ps.getD i 0))) := fun X hX i hi => qlt (hI.next hX) i hi
 have HTK : Hid (∀ i,i < ps.length → Xr m on (ps.take (i + 1)) = Xr m on (ps.take i) ++ Xr m on [ps.getD i 0]) := fun i hi => by rw [qi5 ps i hi,qbo]
 have HEND : Hid (Xr m on (ps.take ps.length) = Xr m on ps) := by
  unfold Hid;rw [List.take_length]
 have HLEN : Hid (∀ i,(Xr m on (ps.take i)).length ≤ 16) := fun i => Nat.le_trans (qf4 m on _) (by rw [List.length_take];omega)
 have HGET : Hid (∀ i,ps.getD i 0 = ps.getD i 0) := fun i => rfl
 generalize hE : (fun X : World => X.heap[w.heap.size]? = some (.cells #[.bool on] 4 (0,0))) = E
 have HEE : Hid (∀ X,E X ↔ X.heap[w.heap.size]? = some (.cells #[.bool on] 4 (0,0))) := fun X => by rw [← hE]
 clear hE hb1 hx1 hI;generalize hK : ps.length = K at *;go_enter Tryz.func97,Tryz.ntmps97;go_wp2_with fail;go_loopg [7,14] K (fun q sv iv wr => ∃ (i : Nat) (L : List (Value × Phi)),iv = .int .i64 (i : Int) ∧ i ≤ K ∧ K - i ≤ q ∧ Below w.heap.size w wr ∧ E wr ∧ SL E (w.heap.size + 1) wr sv L ∧ L.map (·.2) = Xr m on (ps.take i))
 case atStart => exact ⟨0,[],rfl,by omega,by omega,HB1.out,(HEE.out _).2 HX1.out,SL.nil _ _ _,rfl⟩
 case round =>
  clear HB1 HX1;obtain ⟨i,L,rfl,hik,hq,hb,hE,hS,hm⟩ := hrel;have HB : Hid (Below w.heap.size w wr) := hb;have HSL : Hid (SL E (w.heap.size + 1) wr _ L) := hS;have HM : Hid (L.map (·.2) = Xr m on (ps.take i)) := hm;have HEW : Hid (E wr) := hE;have hlen : L.length ≤ 16 := by
   have h1 := HLEN.out i;rw [← hm,List.length_map] at h1;exact h1
  have hw1 : w.heap.size + 1 ≤ wr.heap.size := Qc ((HEE.out _).1 hE);obtain ⟨sa,sc,hsv⟩ := Qz hS.own;subst hsv
  by_cases hlt : i < K
  ·have lt1 : (i : Int) < (K : Int) := by omega
   obtain ⟨b,o,rfl,c1⟩ := HI.out wr hb i hlt;have HT := HTK.out i hlt;have hbits := qb1 m (ps.getD i 0);have HMO := qqn m (ps.getD i 0) wr;have HST : Hid (Xr m on [ps.getD i 0] = if Gq m (ps.getD i 0) = 0 then [] else [qex (Gq m (ps.getD i 0)) (on != decide (Gq m (ps.getD i 0) = 8))]) := rfl
   have HTH : Hid _ := HT;clear hS hb hE hm HT;generalize Gq m (ps.getD i 0) = bm at *;generalize ps.getD i 0 = y at *
   by_cases hz : bm = 0
   ·have hz' : (bm == 0) = true := by simp [hz]
    have HZ : Hid (bm = 0) := hz;clear hz hbits;have bA : Below wr.heap.size wr (wr.alloc (.cells #[.int .i64 bm] 3)) := (qr _ _).alloc (qd _) _;have HBA : Hid _ := bA;clear bA;go_wp2_with (go_at_call 141;refine HMO.mono ?_;rintro e W ⟨rfl,rfl⟩);go_roundg (K - (i + 1))
    case measure => omega
    case rel =>
     refine ⟨i + 1,L,by go_num,by omega,by omega,HB.out.trans (HBA.out.mono HB.out.size),(HEE.out _).2 (Grd.carry ((HEE.out _).1 HEW.out) HBA.out),HSL.out.next HBA.out,?_⟩
     rw [HTH.out,HST.out,if_pos HZ.out,List.append_nil];exact HM.out
   ·have hz' : (bm == 0) = false := by simp [hz]
    have HZ : Hid (¬ bm = 0) := hz;have HBT : Hid _ := hbits;clear hz hbits;go_wp2_with (first | (go_at_call 141;refine HMO.mono ?_;rintro e W ⟨rfl,rfl⟩) | (at_builtin;refine Hid.out ?_));unfold Hid;have bA : Below wr.heap.size wr ((wr.alloc (.cells #[.int .i64 bm] 3)).alloc (.cells #[.bool (bm == 8)] 4)) := ((qr _ _).alloc (by first | (simp;done) | (simp;omega)) _).alloc (by first | (simp;done) | (simp;omega)) _
    have y1 : ((wr.alloc (.cells #[.int .i64 bm] 3)).alloc (.cells #[.bool (bm == 8)] 4)).heap[wr.heap.size]? = _ := (Below.heap_alloc _ _ _ (by first | (simp;done) | (simp;omega))).trans (qf wr (.cells #[.int .i64 bm] 3))
    have y3 : ((wr.alloc (.cells #[.int .i64 bm] 3)).alloc (.cells #[.bool (bm == 8)] 4)).heap[wr.heap.size + 1]? = _ := heap_alloc2_new wr (.cells #[.int .i64 bm] 3) (.cells #[.bool (bm == 8)] 4);have hs2 : ((wr.alloc (.cells #[.int .i64 bm] 3)).alloc (.cells #[.bool (bm == 8)] 4)).heap.size = wr.heap.size + 1 + 1 := by simp
    have HF : Hid (∀ X,Xg wr ((wr.alloc (.cells #[.int .i64 bm] 3)).alloc (.cells #[.bool (bm == 8)] 4)) X → E X → Jm X 142 #[.pointer (some ⟨wr.heap.size,0,none⟩),.pointer (some ⟨w.heap.size,0,none⟩),.pointer (some ⟨wr.heap.size + 1,0,none⟩)] (qex bm (on != (bm == 8)))) := fun X hf he => qht bm on (bm == 8) HBT.out.1 HBT.out.2 X wr.heap.size w.heap.size (wr.heap.size + 1) (Zm (hf.blk (qd _) y1)) (Zm ((HEE.out X).1 he)) (Zm (hf.blk (Nat.le_succ _) y3))
    generalize ((wr.alloc (.cells #[.int .i64 bm] 3)).alloc (.cells #[.bool (bm == 8)] 4)) = W2 at *;have y2 : (W2.alloc (.cells #[(.func (.func 142) #[] #[.pointer (some ⟨wr.heap.size,0,none⟩),.pointer (some ⟨w.heap.size,0,none⟩),.pointer (some ⟨wr.heap.size + 1,0,none⟩)])] 49)).heap[wr.heap.size + 1 + 1]? = some (.cells #[(.func (.func 142) #[] #[.pointer (some ⟨wr.heap.size,0,none⟩),.pointer (some ⟨w.heap.size,0,none⟩),.pointer (some ⟨wr.heap.size + 1,0,none⟩)])] 49 (0,0)) := by
     have h := qf W2 (.cells #[(.func (.func 142) #[] #[.pointer (some ⟨wr.heap.size,0,none⟩),.pointer (some ⟨w.heap.size,0,none⟩),.pointer (some ⟨wr.heap.size + 1,0,none⟩)])] 49);rwa [hs2] at h
    have hown2 := Grd.ownsRow_below HSL.out.own bA;have hfrom := Grd.qb7 HSL.out.own;refine wpList_append_own_at _ rfl _ _ 51 rfl (w.heap.size + 1) 49 i0 .nilFunc 1 8 qd5 hi hz0 hz1 hz2 rfl (by decide) (.slice sa L.length sc) L.length (L.map (·.1)) rfl (hown2.alloc _) ⟨wr.heap.size + 1 + 1,0,none⟩ 1 1 [(.func (.func 142) #[] #[.pointer (some ⟨wr.heap.size,0,none⟩),.pointer (some ⟨w.heap.size,0,none⟩),.pointer (some ⟨wr.heap.size + 1,0,none⟩)])] rfl rfl (Prs.cells_of_block (L := [(.func (.func 142) #[] #[.pointer (some ⟨wr.heap.size,0,none⟩),.pointer (some ⟨w.heap.size,0,none⟩),.pointer (some ⟨wr.heap.size + 1,0,none⟩)])]) y2) (by intro u hu;simp at hu;rw [hu];rfl) (by unfold maxLen;omega) (by omega) (by simp;omega) ?_
    intro v3 W4 hown3 hgr hnil hat;have HSN : Hid _ := SL.append HSL.out HF.out (qiv bm _ HBT.out.1 HBT.out.2) bA hw1 hown3 hgr hat;have HGR : Hid _ := hgr;have HBA : Hid _ := bA;clear hgr hat hnil hown3 hown2 y1 y2 y3 bA;go_wp2_with fail;go_roundg (K - (i + 1))
    case measure => omega
    case rel =>
     have kb2 := HB.out.trans (HBA.out.mono HB.out.size);refine ⟨i + 1,_,by go_num,by omega,by omega,?_,?_,HSN.out,?_⟩
     ·exact (kb2.alloc kb2.size _).grown HGR.out (by simp;omega) (fun q hq => by have := hfrom q hq;omega)
     ·refine (HEE.out _).2 ?_
      rw [HGR.out.block _ (by simp;omega) (fun e => by have := hfrom _ e.symm;omega)]
      exact Grd.carry (Grd.carry ((HEE.out _).1 HEW.out) HBA.out) ((qr _ _).alloc (qd _) _)
     ·rw [HTH.out, HST.out, if_neg HZ.out, List.map_append, HM.out]
      rfl
  ·have lt1 : ¬ (i : Int) < (K : Int) := by omega
   have e : i = K := by omega
   subst e;have hm' := hm.trans HEND.out;have hkp : ∀ f,f ∈ L.map (·.2) → Xf f := fun f hf => by
    obtain ⟨x,hx,rfl⟩ := List.mem_map.1 hf;exact (hS.all x hx).keeps
   have hlm : (L.map (·.2)).length = L.length := List.length_map _;have HA := qlq (L.map (·.2)) hkp sa sc wr (by omega)
   rw [hlm,hm'] at HA;have HMM : Hid (L.map (·.2) = Xr m on ps) := hm';have HFIN : Hid (∀ w3,Below wr.heap.size wr w3 → ∀ W,Xg w w3 W → Xg wr w3 W ∧ Yz W (.slice sa L.length sc) (L.map (·.2))) := fun w3 h3 W hf => by
    have hfw : Xg w wr W := hf.inner (qd _) h3;exact ⟨hf.inner HB.out.size (qr _ _),HSL.out.steps (w := w) (Nat.le_succ _) hfw ((HEE.out _).2 (hfw.blk (qd _) ((HEE.out _).1 HEW.out)))⟩
   clear hm hm' hS hb hE hkp hlm;go_wp2_with fail;refine HA.mono ?_;rintro e w3 ⟨fid,caps,rfl,hk,h3,b3⟩;have HK3 : Hid _ := hk;have H3 : Hid _ := h3;have HB3 : Hid _ := b3;clear hk h3 b3 HA;go_wp2_with fail;go_ret;refine ⟨fid,caps,rfl,HK3.out,fun W hf _ => ?_,HB.out.trans (HB3.out.mono HB.out.size)⟩
   obtain ⟨q1,q2⟩ := HFIN.out w3 HB3.out W hf;rw [HMM.out] at q2;exact H3.out W q1 q2
end Put
namespace Put
open Grd (C SliceAt Qb Qf z0 Q0 flat Qe)
open Prs (Qv ints)
theorem qpb (l : List Int) (v : Value) (w : World) (hI : Qv w v l) (hn : l.length * 8 ≤ 140737488355328) :
  Calls qP 214 #[v] w fun e w' => ∃ pa pc,e = .returned (.slice pa l.length pc) ∧ w'.ownsRow w.heap.size 3 1 (.slice pa l.length pc) l.length (ints l) ∧ Below w.heap.size w w' := by
 rcases hI with ⟨rfl,p,c,rfl⟩ | ⟨b,o,c,rfl,hc⟩
 ·cases p with
  | none =>
   refine (Tryz.slices_Clone_int_nil 0 c w).mono ?_;rintro e w' ⟨rfl,rfl⟩;exact ⟨none,0,rfl,World.ownsRow_nil _ _ _ _,qr _ _⟩
  | some a =>
   refine (Tryz.slices_Clone_int_zero a c w).mono ?_;rintro e w' ⟨v',rfl,ho,-,hb⟩;obtain ⟨pa,pc,rfl⟩ := Qz ho;exact ⟨pa,pc,rfl,ho,hb⟩
 ·refine (Tryz.slices_Clone_int b o l.length c l w (qd _) hn (Prs.qa6 hc)).mono ?_
  rintro e w' ⟨v',rfl,ho,-,hb⟩;rw [List.take_length] at ho;obtain ⟨pa,pc,rfl⟩ := Qz ho;exact ⟨pa,pc,rfl,ho,hb⟩
def told (p : Int) : Int := if p = -1 then 0 else p
def mixL (ps : List Int) (i : Nat) : List Int := (ps.take i).map told ++ ps.drop i
theorem qxt (ps : List Int) : mixL ps ps.length = ps.map told := by
 unfold mixL;rw [List.take_length,List.drop_length,List.append_nil]
theorem qvf (ps : List Int) (i : Nat) (h : i < ps.length) : mixL ps (i + 1) = (mixL ps i).set i (par ps i 0) := by
 have e1 : par ps i 0 = told (ps.getD i 0) := by
  unfold par told;rw [if_neg (by omega)]
 have e2 : ps.drop i = ps.getD i 0 :: ps.drop (i + 1) := by
  rw [qy,List.getElem?_eq_getElem h,List.drop_eq_getElem_cons h]
  rfl
 have hl : ((ps.take i).map told).length = i := by
  rw [List.length_map,List.length_take];omega
 unfold mixL;rw [e1,qi5 ps i h,List.map_append,List.append_assoc,e2,List.set_append_right _ _ (by omega),hl,Nat.sub_self]
 rfl
theorem qxs (ps : List Int) (i : Nat) (h : i < ps.length) : ints (mixL ps (i + 1)) = (ints (mixL ps i)).set i (.int .i64 (par ps i 0)) := by
 rw [qvf ps i h];unfold ints;rw [List.map_set]
theorem qqk {W : World} {N : Nat} {e : TypeId} {v : Value} {n : Nat} {vs : List Value} (h : W.ownsRow N e 1 v n vs) (hn : 0 < n) : ∃ g c,v = .slice (some ⟨g,0,none⟩) n c ∧ N ≤ g ∧ ∃ A,W.heap[g]? = some (.cells A e (0,0)) ∧ n ≤ A.size := by
 obtain ⟨h0,⟨rfl,rfl⟩ | ⟨g,cap,cur,hv,hg,hh,hc,hm,hs,htk⟩⟩ := h
 ·omega
 ·exact ⟨g,cap,hv,hg,_,hh,by omega⟩
theorem qv9 {w : World} {base : Nat} {v : Value} {xs : List Int} (h : w.ownsRow base 3 1 v xs.length (ints xs)) : Stl.qbs w v xs := by
 rcases h.2 with ⟨rfl,h0⟩ | ⟨g,cap,cur,rfl,_,hh,hc,_,hs,htk⟩
 ·exact .inl ⟨List.length_eq_zero_iff.1 h0,_,_,rfl⟩
 ·by_cases h0 : xs = []
  ·subst h0
   exact .inl ⟨rfl,_,_,rfl⟩
  ·refine .inr ⟨h0, g, 0, cap, rfl, hc, fun j hj => ?_⟩
   have h1 : cur.toList[j]? = some (.int .i64 (xs.getD j 0)) := by
    have h2 : (cur.toList.take (xs.length * 1))[j]? = (ints xs)[j]? := by rw [htk]
    rw [List.getElem?_take,if_pos (by omega)] at h2
    rw [h2];simp [ints,hj,qy]
   simp only [World.cell?,hh,Nat.zero_add];simpa using h1
theorem qn2 (ps : List Int) (p : Option Addr) (c : Nat) (w : World) (hI : Qv w (.slice p ps.length c) ps) (hl : ps.length ≤ 16) (hpa : ∀ y,y ∈ ps → -1 ≤ y ∧ y ≤ 9999) : Calls qP 163 #[.slice p ps.length c] w (Zn Any1 w (qav (ps.map told))) := by
 have HCL := qpb ps _ w hI (by omega)
 have HP : Hid (∀ X,Below w.heap.size w X → ∀ i : Nat,Calls qP 99 #[.slice p ps.length c,.int .i64 (i : Int),.int .i64 0] X fun e w' => e = .returned (.int .i64 (par ps i 0)) ∧ X = w') := fun X hX i => Vl ps p c i 0 X (hI.next hX)
 have HMIX : Hid (∀ i,i < ps.length → ints (mixL ps (i + 1)) = (ints (mixL ps i)).set i (.int .i64 (par ps i 0))) := fun i hi => qxs ps i hi
 have HNM : Hid (∀ X v,X.ownsRow w.heap.size 3 1 v ps.length (ints (mixL ps ps.length)) → Nums X v (ps.map told)) := fun X v h => by
  rw [qxt] at h;refine ⟨qv9 (by rw [List.length_map];exact h),by rw [List.length_map];omega,fun x hx => ?_⟩
  obtain ⟨y,hy,rfl⟩ := List.mem_map.1 hx;have := hpa y hy;unfold told;split <;> omega
 have HM0 : Hid (ints (mixL ps 0) = ints ps) := rfl;have HKL : Hid (Xf (qav (ps.map told))) := fun _ _ _ h => qbt h _
 clear hI hpa;generalize hK : ps.length = K0 at *;clear hK;go_enter Tryz.func163,Tryz.ntmps163;go_wp2_with fail;refine HCL.mono ?_;rintro e W1 ⟨na,nc,rfl,ho,b1⟩;have hx := qf W1 (.cells #[.slice na K0 nc] 33);have bx : Below W1.heap.size W1 (W1.alloc (.cells #[.slice na K0 nc] 33)) := (qr _ _).alloc (qd _) _;have HX : Hid _ := hx;have HBX : Hid (Below w.heap.size w (W1.alloc (.cells #[.slice na K0 nc] 33))) := b1.trans (bx.mono b1.size);have HO : Hid ((W1.alloc (.cells #[.slice na K0 nc] 33)).ownsRow w.heap.size 3 1 (.slice na K0 nc) K0 (ints ps)) := Grd.ownsRow_below ho bx;have hs1 := b1.size;clear hx bx ho b1 HCL;go_wp2_with fail;go_loopg [9] K0 (fun q v wr => ∃ i : Nat,v = .int .i64 (i : Int) ∧ i ≤ K0 ∧ K0 - i ≤ q ∧ Below w.heap.size w wr ∧ wr.heap[W1.heap.size]? = some (.cells #[.slice na K0 nc] 33 (0,0)) ∧ wr.ownsRow w.heap.size 3 1 (.slice na K0 nc) K0 (ints (mixL ps i)))
 case atStart => exact ⟨0,rfl,by omega,by omega,HBX.out,HX.out,by rw [HM0.out];exact HO.out⟩
 case round =>
  clear HX HBX HO;obtain ⟨i,rfl,hi,hq,hb,hy,ho⟩ := hrel
  by_cases hlt : i < K0
  ·have lt1 : (i : Int) < (K0 : Int) := by omega
   obtain ⟨g,gc',hv,hgb,A,hA,hAs⟩ := qqk ho (by omega)
   injection hv with hv1 _ hv3
   subst hv1 hv3;have hne : g ≠ W1.heap.size := by
    intro e;rw [e,hy] at hA;injection hA with hA
    injection hA with _ hA _
    exact absurd hA (by decide)
   have HBZ : Hid (Below w.heap.size w wr.drew) := hb.drew;have HYZ : Hid (wr.drew.heap[W1.heap.size]? = _) := hy;have HOZ : Hid (wr.drew.ownsRow w.heap.size 3 1 _ K0 (ints (mixL ps i))) := ho;have HPA := HP.out wr.drew HBZ.out i;have HMX : Hid _ := HMIX.out i hlt;have d0 : wr.drew.cell? ⟨W1.heap.size,0,none⟩ = some (.slice (some ⟨g,0,none⟩) K0 nc) := Zm HYZ.out;have d1 : wr.drew.cell? ⟨g,i,none⟩ = some (A[i]'(by omega)) := by
    show (match wr.drew.heap[g]? with
     | some (.cells cs _ _) => cs[i]?
     | _ => none) = _
    rw [show wr.drew.heap[g]? = _ from hA]
    exact Array.getElem?_eq_getElem _
   have d2 : wr.drew.frozen? ⟨g,i,none⟩ = false := Grd.Je (show wr.drew.heap[g]? = _ from hA) i
   clear hb hy ho hA;generalize par ps i 0 = pv at *;generalize A[i]'(by omega) = av at *
   go_upto_region 5 with fail
   refine wp_region_held_drew (S := fun _ => True) (by kernel_rfl) trivial (fun hHeld => ?_)
   generalize wr.drew = Z0 at *;refine Qq (i := 1) (v := ?_) rfl (by kernel_rfl) (by kernel_rfl) (by kernel_rfl) (fun _ _ _ h => h) (Or.inl ⟨by rfl,?_⟩) hHeld ?_
   rotate_left
   ·intro w' hSw
    go_simp
    (try with_reducible rfl)
   (try simp only [qx,qa,qb,qc])
   refine Qq (i := 2) (v := ?_) rfl (by kernel_rfl) (by kernel_rfl) (by kernel_rfl) (fun _ _ _ h => h) (Or.inl ⟨by rfl,?_⟩) hHeld ?_
   rotate_left
   ·intro w' hSw
    go_simp
    (try with_reducible rfl)
   (try simp only [qx,qa,qb,qc])
   refine Qq (i := 3) (v := ?_) rfl (by kernel_rfl) (by kernel_rfl) (by kernel_rfl) (fun _ _ _ h => h) (Or.inl ⟨by rfl,?_⟩) hHeld ?_
   rotate_left
   ·intro w' hSw
    go_simp
    (try with_reducible rfl)
   (try simp only [qx,qa,qb,qc])
   refine qm (rs := [0,4]) (by kernel_rfl) (by simp) ?_
   refine Qy rfl (fun K hK => ?_) <| Qy rfl (fun K hK => ?_) <| qt
   ·go_simp
    refine hK.out _ _ trivial (fun hHeld => ?_)
    clear hK K
    (try simp only [qx,qa,qb,qc])
    refine qm (rs := [4]) (by kernel_rfl) (by simp) ?_
    refine Qy rfl (fun K hK => ?_) <| qt
    ·go_simp
     refine HPA.mono ?_;rintro e V ⟨rfl,rfl⟩;go_wp2_with fail;refine hK.out _ _ trivial (fun hHeld => ?_)
     clear hK K
     (try simp only [qx,qa,qb,qc])
     refine Qq (i := 5) (v := ?_) rfl (by kernel_rfl) (by kernel_rfl) (by kernel_rfl) (fun _ _ _ h => h) (Or.inl ⟨by rfl,?_⟩) hHeld ?_
     rotate_left
     ·intro w' hSw
      go_simp
      (try with_reducible rfl)
     (try simp only [qx,qa,qb,qc])
     refine qm (rs := [6]) (by kernel_rfl) (by simp) ?_
     refine Qy rfl (fun K hK => ?_) <| qt
     ·go_simp
      refine hK.out _ _ trivial (fun hHeld => ?_)
      clear hK K
      (try simp only [qx,qa,qb,qc])
      refine wpAnyH_done (by kernel_rfl) ?_ _
      go_wp2_with fail;go_roundg (K0 - (i + 1))
      case measure => omega
      case rel =>
       refine ⟨i + 1,by go_num,by omega,by omega,HBZ.out.setCell hgb _,(Zf (Ne.symm hne)).trans HYZ.out,?_⟩
       rw [HMX.out];exact qb5 HOZ.out
   ·go_simp
    refine HPA.mono ?_;rintro e V ⟨rfl,rfl⟩;go_wp2_with fail;refine hK.out _ _ trivial (fun hHeld => ?_)
    clear hK K
    (try simp only [qx,qa,qb,qc])
    refine qm (rs := [0]) (by kernel_rfl) (by simp) ?_
    refine Qy rfl (fun K hK => ?_) <| qt
    ·go_simp
     refine hK.out _ _ trivial (fun hHeld => ?_)
     clear hK K
     (try simp only [qx,qa,qb,qc])
     refine Qq (i := 5) (v := ?_) rfl (by kernel_rfl) (by kernel_rfl) (by kernel_rfl) (fun _ _ _ h => h) (Or.inl ⟨by rfl,?_⟩) hHeld ?_
     rotate_left
     ·intro w' hSw
      go_simp
      (try with_reducible rfl)
     (try simp only [qx,qa,qb,qc])
     refine qm (rs := [6]) (by kernel_rfl) (by simp) ?_
     refine Qy rfl (fun K hK => ?_) <| qt
     ·go_simp
      refine hK.out _ _ trivial (fun hHeld => ?_)
      clear hK K
      (try simp only [qx,qa,qb,qc])
      refine wpAnyH_done (by kernel_rfl) ?_ _
      go_wp2_with fail;go_roundg (K0 - (i + 1))
      case measure => omega
      case rel =>
       refine ⟨i + 1,by go_num,by omega,by omega,HBZ.out.setCell hgb _,(Zf (Ne.symm hne)).trans HYZ.out,?_⟩
       rw [HMX.out];exact qb5 HOZ.out
  ·have lt1 : ¬ (i : Int) < (K0 : Int) := by omega
   have e : i = K0 := by omega
   subst e;have HY : Hid _ := hy;have HB : Hid (Below w.heap.size w wr) := hb
   have HFIN : Hid (∀ X, Xg w wr X → Jm X 215 #[.pointer (some ⟨W1.heap.size, 0, none⟩)] (qav (ps.map told))) := fun X hf => qhv na i nc (ps.map told) X W1.heap.size (Zm (hf.blk hs1 hy)) (HNM.out X _ (Ze ho fun q hqq => by
    obtain ⟨hwq,B,fr,hB⟩ := Qn ho q hqq
    exact hf.2 q hwq (Qc hB)))
   clear hb hy ho;go_wp2_with fail;go_ret;exact ⟨_,_,rfl,HKL.out,fun X hf _ => HFIN.out X hf,HB.out⟩
end Put
namespace Put
theorem qfe : Tryz.prog.underlying 127 = some (.array 256 124) := by kernel_rfl
def cntV (n : Int) : Value := if n = 64 then .func (.func 144) #[] #[] else if n = 65 then .func (.func 145) #[] #[] else if n = 66 then .func (.func 146) #[] #[] else if n = 67 then .func (.func 147) #[] #[] else if n = 68 then .func (.func 87) #[] #[] else if n = 71 then .func (.func 148) #[] #[] else if n = 73 then .func (.func 89) #[] #[] else if n = 76 then .func (.func 149) #[] #[] else if n = 77 then .func (.func 150) #[] #[] else if n = 80 then .func (.func 151) #[] #[] else if n = 83 then .func (.func 152) #[] #[] else if n = 84 then .func (.func 153) #[] #[] else if n = 88 then .func (.func 154) #[] #[] else if n = 90 then .func (.func 155) #[] #[] else if n = 96 then .func (.func 148) #[] #[] else if n = 97 then .func (.func 147) #[] #[] else if n = 98 then .func (.func 156) #[] #[] else if n = 100 then .func (.func 157) #[] #[] else if n = 101 then .func (.func 146) #[] #[] else .nilFunc
def cntA : Array Value := ((List.range 256).map fun (n : Nat) => cntV (n : Int)).toArray
theorem qu0 : cntA.size = 256 := by simp [cntA]
theorem qwf : cntA.all (·.oneCell') = true := by kernel_rfl
theorem qk1 (w : World) : Calls qP 98 #[] w fun e w' => e = .returned (.agg cntA) ∧ Below w.heap.size w w' := by
 have HB : Hid (Below w.heap.size w (w.alloc (.cells Tryz.zeroCells127 127))) := (qr _ _).alloc (qd _) _;have HX : Hid _ := qf w (.cells Tryz.zeroCells127 127);go_enter Tryz.func98,Tryz.ntmps98;go_upto_region 1 with fail
 go_wp2_with (first | (refine wpList_build rfl _ _ rfl (by kernel_rfl) ?_) | (refine qh rfl 127 (.tmp 0) (.tmp 1) rfl w.heap.size cntA rfl (by kernel_rfl) _ _ HX.out (by kernel_rfl) (by kernel_rfl) qwf ?_))
 (try simp only [qv,qw])
 refine qk (v := .agg cntA) ?_ rfl ⟨rfl,qi HB.out (qd _) _⟩;exact results_cell_row rfl _ _ w.heap.size _ _ _ _ rfl (qj _ _ _ _ _ _ HX.out) qfe rfl (by kernel_rfl)
theorem q0i (c : Int) (h0 : 0 ≤ c) (h1 : c ≤ 255) (w : World) : (Instr.index 127 (.agg cntA) (.int .u8 c)).run qP w = .ok (cntV c) w := by
 have hs := qu0;have e : c = ((c.toNat : Nat) : Int) := by omega
 have hl : c.toNat < 256 := by omega
 rw [e];generalize c.toNat = k at *;have hk : k < cntA.size := by omega
 simp [Instr.index,run_underlying qfe,asIntOf,go_sem];rw [if_pos hl];have eA : cntA[k]? = some (cntV (k : Int)) := by simp [cntA,hl]
 rw [eA]
 rfl
theorem qin (c k : Int) : (cntV c = .nilFunc ∧ qgq c k = none) ∨ ∃ fid f,cntV c = .func (.func fid) #[] #[] ∧ qgq c k = some f ∧ Ct fid #[.int .i64 k] f := by
 unfold cntV qgq
 by_cases h : c = 64
 ·rw [if_pos h, if_pos h]
  exact .inr ⟨_,_,rfl,rfl,q18 k⟩
 rw [if_neg h,if_neg h];clear h
 by_cases h : c = 65
 ·rw [if_pos h, if_pos h]
  exact .inr ⟨_,_,rfl,rfl,ctUp k⟩
 rw [if_neg h,if_neg h];clear h
 by_cases h : c = 66
 ·rw [if_pos h, if_pos h]
  exact .inr ⟨_,_,rfl,rfl,qj2 k⟩
 rw [if_neg h,if_neg h];clear h
 by_cases h : c = 67
 ·rw [if_pos h, if_pos h]
  exact .inr ⟨_,_,rfl,rfl,qsd k⟩
 rw [if_neg h,if_neg h];clear h
 by_cases h : c = 68
 ·rw [if_pos h, if_pos h]
  exact .inr ⟨_,_,rfl,rfl,qp6 k⟩
 rw [if_neg h,if_neg h];clear h
 by_cases h : c = 71
 ·rw [if_pos h, if_pos h]
  exact .inr ⟨_,_,rfl,rfl,qmf k⟩
 rw [if_neg h,if_neg h];clear h
 by_cases h : c = 73
 ·rw [if_pos h, if_pos h]
  exact .inr ⟨_,_,rfl,rfl,qwk k⟩
 rw [if_neg h,if_neg h];clear h
 by_cases h : c = 76
 ·rw [if_pos h, if_pos h]
  exact .inr ⟨_,_,rfl,rfl,q1y k⟩
 rw [if_neg h,if_neg h];clear h
 by_cases h : c = 77
 ·rw [if_pos h, if_pos h]
  exact .inr ⟨_,_,rfl,rfl,q1t k⟩
 rw [if_neg h,if_neg h];clear h
 by_cases h : c = 80
 ·rw [if_pos h, if_pos h]
  exact .inr ⟨_,_,rfl,rfl,q12 k⟩
 rw [if_neg h,if_neg h];clear h
 by_cases h : c = 83
 ·rw [if_pos h, if_pos h]
  exact .inr ⟨_,_,rfl,rfl,q15 k⟩
 rw [if_neg h,if_neg h];clear h
 by_cases h : c = 84
 ·rw [if_pos h, if_pos h]
  exact .inr ⟨_,_,rfl,rfl,qzx k⟩
 rw [if_neg h,if_neg h];clear h
 by_cases h : c = 88
 ·rw [if_pos h, if_pos h]
  exact .inr ⟨_,_,rfl,rfl,q0d k⟩
 rw [if_neg h,if_neg h];clear h
 by_cases h : c = 90
 ·rw [if_pos h, if_pos h]
  exact .inr ⟨_,_,rfl,rfl,qt3 k⟩
 rw [if_neg h,if_neg h];clear h
 by_cases h : c = 96
 ·rw [if_pos h, if_pos h]
  exact .inr ⟨_,_,rfl,rfl,qmf k⟩
 rw [if_neg h,if_neg h];clear h
 by_cases h : c = 97
 ·rw [if_pos h, if_pos h]
  exact .inr ⟨_,_,rfl,rfl,qsd k⟩
 rw [if_neg h,if_neg h];clear h
 by_cases h : c = 98
 ·rw [if_pos h, if_pos h]
  exact .inr ⟨_,_,rfl,rfl,qzr k⟩
 rw [if_neg h,if_neg h];clear h
 by_cases h : c = 100
 ·rw [if_pos h, if_pos h]
  exact .inr ⟨_,_,rfl,rfl,q13 k⟩
 rw [if_neg h,if_neg h];clear h
 by_cases h : c = 101
 ·rw [if_pos h, if_pos h]
  exact .inr ⟨_,_,rfl,rfl,qj2 k⟩
 rw [if_neg h,if_neg h];clear h;exact .inl ⟨rfl,rfl⟩
def choV (n : Int) : Value := if n = 74 then .func (.func 158) #[] #[] else if n = 75 then .func (.func 159) #[] #[] else if n = 103 then .func (.func 160) #[] #[] else .nilFunc
def choA : Array Value := ((List.range 256).map fun (n : Nat) => choV (n : Int)).toArray
theorem qt8 : choA.size = 256 := by simp [choA]
theorem qyq : choA.all (·.oneCell') = true := by kernel_rfl
theorem qjm (w : World) : Calls qP 100 #[] w fun e w' => e = .returned (.agg choA) ∧ Below w.heap.size w w' := by
 have HB : Hid (Below w.heap.size w (w.alloc (.cells Tryz.zeroCells127 127))) := (qr _ _).alloc (qd _) _;have HX : Hid _ := qf w (.cells Tryz.zeroCells127 127);go_enter Tryz.func100,Tryz.ntmps100;go_upto_region 1 with fail
 go_wp2_with (first | (refine wpList_build rfl _ _ rfl (by kernel_rfl) ?_) | (refine qh rfl 127 (.tmp 0) (.tmp 1) rfl w.heap.size choA rfl (by kernel_rfl) _ _ HX.out (by kernel_rfl) (by kernel_rfl) qyq ?_))
 (try simp only [qv,qw])
 refine qk (v := .agg choA) ?_ rfl ⟨rfl,qi HB.out (qd _) _⟩;exact results_cell_row rfl _ _ w.heap.size _ _ _ _ rfl (qj _ _ _ _ _ _ HX.out) qfe rfl (by kernel_rfl)
theorem qz9 (c : Int) (h0 : 0 ≤ c) (h1 : c ≤ 255) (w : World) : (Instr.index 127 (.agg choA) (.int .u8 c)).run qP w = .ok (choV c) w := by
 have hs := qt8;have e : c = ((c.toNat : Nat) : Int) := by omega
 have hl : c.toNat < 256 := by omega
 rw [e];generalize c.toNat = k at *;have hk : k < choA.size := by omega
 simp [Instr.index,run_underlying qfe,asIntOf,go_sem];rw [if_pos hl];have eA : choA[k]? = some (choV (k : Int)) := by simp [choA,hl]
 rw [eA]
 rfl
theorem qir (c k : Int) : (choV c = .nilFunc ∧ qc8 c k = none) ∨ ∃ fid f,choV c = .func (.func fid) #[] #[] ∧ qc8 c k = some f ∧ Ct fid #[.int .i64 k] f := by
 unfold choV qc8
 by_cases h : c = 74
 ·rw [if_pos h, if_pos h]
  exact .inr ⟨_,_,rfl,rfl,qw1 k⟩
 rw [if_neg h,if_neg h];clear h
 by_cases h : c = 75
 ·rw [if_pos h, if_pos h]
  exact .inr ⟨_,_,rfl,rfl,q1r k⟩
 rw [if_neg h,if_neg h];clear h
 by_cases h : c = 103
 ·rw [if_pos h, if_pos h]
  exact .inr ⟨_,_,rfl,rfl,qrd k⟩
 rw [if_neg h,if_neg h];clear h;exact .inl ⟨rfl,rfl⟩
end Put
namespace Put
open Grd (C SliceAt Qb Qf z0 Q0 flat Qe)
open Prs (Qv)
theorem q1s (ps : List Int) (hpa : ∀ y,y ∈ ps → -1 ≤ y ∧ y ≤ 9999) (i : Nat) (d : Int) (hd : d ≤ 9999) : par ps i d ≤ 9999 := by
 unfold par;split
 ·exact hd
 ·split
  ·exact hd
  ·rename_i h _
   have h2 : i < ps.length := by omega
   rw [qy,List.getElem?_eq_getElem h2];exact (hpa _ (List.getElem_mem h2)).2
theorem qls (fin : Int) (ps : List Int) (p : Option Addr) (c : Nat) (w : World) (hI : Qv w (.slice p ps.length c) ps) (hl : ps.length ≤ 16) (hpa : ∀ y,y ∈ ps → -1 ≤ y ∧ y ≤ 9999) : Calls qP 101 #[.int .u8 fin,.slice p ps.length c] w (Zn (fun W => Qv W (.slice p ps.length c) ps) w (Zz fin ps)) := by
 have HPA := Vl ps p c 0 1 w hI;have hle := q1s ps hpa 0 0 (by omega)
 by_cases h69 : fin = 69
 ·subst h69
  have e : Zz 69 ps = Qu [qfn (par ps 0 1),Km] := rfl;rw [e];have HBY := by_m 146 (par ps 0 1) _ (qj2 _) (fun W => Qv W (.slice p ps.length c) ps) w
  clear hI hle e hpa;generalize (fun W => Qv W (.slice p ps.length c) ps) = E at *
  generalize par ps 0 1 = x at *;generalize ps.length = K at *;go_enter Tryz.func101,Tryz.ntmps101;go_wp2_with fail;refine HPA.mono ?_;rintro e W ⟨rfl,rfl⟩;go_wp2_with fail;refine HBY.mono ?_;rintro e w1 ⟨fid,caps,rfl,hk,h1,b1⟩;have HA := qrv hk 91 Vv fid caps w w1 _ h1 b1 rfl;clear hk h1 b1 HBY HPA;go_wp2_with fail;refine HA.mono ?_;rintro e W ⟨fid3,caps3,rfl,hF⟩;have HF : Hid _ := hF;clear hF HA;go_wp2_with fail;go_ret;exact ⟨_,_,rfl,HF.out⟩
 by_cases h70 : fin = 70
 ·subst h70
  have e : Zz 70 ps = Qu [phUp (par ps 0 1),Km] := rfl;rw [e];have HBY := by_m 145 (par ps 0 1) _ (ctUp _) (fun W => Qv W (.slice p ps.length c) ps) w
  clear hI hle e hpa;generalize (fun W => Qv W (.slice p ps.length c) ps) = E at *
  generalize par ps 0 1 = x at *;generalize ps.length = K at *;go_enter Tryz.func101,Tryz.ntmps101;go_wp2_with fail;refine HPA.mono ?_;rintro e W ⟨rfl,rfl⟩;go_wp2_with fail;refine HBY.mono ?_;rintro e w1 ⟨fid,caps,rfl,hk,h1,b1⟩;have HA := qrv hk 91 Vv fid caps w w1 _ h1 b1 rfl;clear hk h1 b1 HBY HPA;go_wp2_with fail;refine HA.mono ?_;rintro e W ⟨fid3,caps3,rfl,hF⟩;have HF : Hid _ := hF;clear hF HA;go_wp2_with fail;go_ret;exact ⟨_,_,rfl,HF.out⟩
 clear HPA
 by_cases h72 : fin = 72 ∨ fin = 102
 ·have e : Zz fin ps = phTo (par ps 0 1) (par ps 1 1) := by
   unfold Zz;rw [if_neg h69,if_neg h70,if_pos h72]
  rw [e];have HPR := qmj 162 ps 1 p c _ (ctTo (par ps 0 1) (par ps 1 1)) w;clear hI hle e hpa;generalize (fun W => Qv W (.slice p ps.length c) ps) = E at *
  generalize ps.length = K at *
  rcases h72 with rfl | rfl
  all_goals
   go_enter Tryz.func101,Tryz.ntmps101;go_wp2_with fail;refine HPR.mono ?_;rintro e W ⟨fid3,caps3,rfl,hF⟩;have HF : Hid _ := hF;clear hF HPR;go_wp2_with fail;go_ret;exact ⟨_,_,rfl,HF.out⟩
 by_cases h109 : fin = 109
 ·subst h109
  have HLK := (qn2 ps p c w hI hl hpa).mono fun e w' h => h.weak (E' := fun W => Qv W (.slice p ps.length c) ps) fun _ _ => trivial
  have e : Zz 109 ps = qav (ps.map told) := rfl;rw [e];clear hI hle e hpa;generalize (fun W => Qv W (.slice p ps.length c) ps) = E at *
  generalize ps.length = K at *;go_enter Tryz.func101,Tryz.ntmps101;go_wp2_with fail;refine HLK.mono ?_;rintro e W ⟨fid3,caps3,rfl,hF⟩;have HF : Hid _ := hF;clear hF HLK;go_wp2_with fail;go_ret;exact ⟨_,_,rfl,HF.out⟩
 by_cases h114 : fin = 114
 ·subst h114
  have e : Zz 114 ps = qfg (par ps 0 0) (par ps 1 0) := rfl;rw [e];have HPR := qmj 164 ps 0 p c _ (qwp (par ps 0 0) (par ps 1 0) (by omega)) w
  clear hI hle e hpa;generalize (fun W => Qv W (.slice p ps.length c) ps) = E at *
  generalize ps.length = K at *;go_enter Tryz.func101,Tryz.ntmps101;go_wp2_with fail;refine HPR.mono ?_;rintro e W ⟨fid3,caps3,rfl,hF⟩;have HF : Hid _ := hF;clear hF HPR;go_wp2_with fail;go_ret;exact ⟨_,_,rfl,HF.out⟩
 clear hI hle hpa;generalize (fun W => Qv W (.slice p ps.length c) ps) = E at *
 by_cases h115 : fin = 115
 ·subst h115
  have e : Zz 115 ps = qk0 := rfl;rw [e];clear e;generalize ps.length = K at *;go_enter Tryz.func101,Tryz.ntmps101;go_wp2_with fail;go_ret;exact qkz.makes _ (qr _ _)
 by_cases h117 : fin = 117
 ·subst h117
  have e : Zz 117 ps = qjw := rfl;rw [e];clear e;generalize ps.length = K at *;go_enter Tryz.func101,Tryz.ntmps101;go_wp2_with fail;go_ret;exact qj3.makes _ (qr _ _)
 ·have e : Zz fin ps = phId := by
   unfold Zz;rw [if_neg h69,if_neg h70,if_neg h72,if_neg h109,if_neg h114,if_neg h115,if_neg h117]
  rw [e];clear e;have g72 : fin ≠ 72 := fun e => h72 (.inl e)
  have g102 : fin ≠ 102 := fun e => h72 (.inr e)
  clear h72;generalize ps.length = K at *;go_enter Tryz.func101,Tryz.ntmps101;go_wp2_with fail;go_ret;exact Yq.makes _ (qr _ _)
theorem qz8 (w : World) : (binOp .neq 124 .nilFunc .nilFunc).run qP w = .ok (.bool false) w := by kernel_rfl
theorem qzp (fid : FuncId) (w : World) : (binOp .neq 124 (.func (.func fid) #[] #[]) .nilFunc).run qP w = .ok (.bool true) w := by kernel_rfl
theorem Zn.from {E : World → Prop} {w X : World} {f : Phi} {e : Ending} {w' : World} (h : Zn E X f e w') (hb : Below w.heap.size w X) : Zn E w f e w' := by
 obtain ⟨fid,caps,h1,hk,h2,h3⟩ := h;exact ⟨fid,caps,h1,hk,fun W hf he => h2 W (hf.inner hb.size (qr _ _)) he,hb.trans (h3.mono hb.size)⟩
theorem qlj (e : Prs.Ev) (p : Option Addr) (c : Nat) (w : World) (hI : Qv w (.slice p e.ps.length c) e.ps) (hB : Prs.EvB e) : Calls qP 58 #[.agg #[.int .i64 e.kind,.int .i32 e.r,.int .u8 e.fin,.int .u8 e.mark,.string e.mid,.slice p e.ps.length c,.string e.txt]] w (Zn (fun W => Qv W (.slice p e.ps.length c) e.ps) w (X0 e)) := by
 obtain ⟨kind,r,fin,mark,mid,ps,txt⟩ := e;have hpl := hB.pl;have hpa := hB.pa;have f0 := hB.f0;have f1 := hB.f1;simp only at hI hpl hpa f0 f1 ⊢;clear hB;have x0 := qf w (.cells #[.int .i64 kind,.int .i32 r,.int .u8 fin,.int .u8 mark,.string mid,.slice p ps.length c,.string txt] 71);have kb : Below w.heap.size w (w.alloc (.cells #[.int .i64 kind,.int .i32 r,.int .u8 fin,.int .u8 mark,.string mid,.slice p ps.length c,.string txt] 71)) := (qr _ _).alloc (qd _) _;obtain ⟨c0,c1,c2,c3,c4,c5,c6,-⟩ := Prs.Z8 x0;have HKB : Hid _ := kb;have HI : Hid (∀ X,Below w.heap.size w X → Qv X (.slice p ps.length c) ps) := fun X hX => hI.next hX
 clear x0 hI
 by_cases hhl : fin = 104 ∨ fin = 108
 ·have e1 : X0 ⟨kind,r,fin,mark,mid,ps,txt⟩ = Qu (Xr mark (decide (fin = 104)) ps) := by
   unfold X0;rw [if_pos hhl]
  rw [e1];clear e1;have HST := ql6 mark ps p c (decide (fin = 104)) (w.alloc (.cells #[.int .i64 kind,.int .i32 r,.int .u8 fin,.int .u8 mark,.string mid,.slice p ps.length c,.string txt] 71)) (HI.out _ kb) hpl;replace HST := HST.mono fun e w' h => (h.weak (E' := fun W => Qv W (.slice p ps.length c) ps) fun _ _ => trivial).from kb
  clear kb hpa HI;generalize (fun W => Qv W (.slice p ps.length c) ps) = E at *
  generalize ps.length = K at *
  rcases hhl with rfl | rfl
  all_goals
   go_enter Tryz.func58,Tryz.ntmps58;go_wp2_with fail;refine HST.mono ?_;rintro e W ⟨fid3,caps3,rfl,hF⟩;have HF : Hid _ := hF;clear hF HST;go_wp2_with fail;go_ret;exact ⟨_,_,rfl,HF.out⟩
 have g104 : fin ≠ 104 := fun e => hhl (.inl e)
 have g108 : fin ≠ 108 := fun e => hhl (.inr e)
 have q104 : (fin == 104) = false := by simp [g104]
 have q108 : (fin == 108) = false := by simp [g108]
 by_cases hmk : mark ≠ 0
 ·have e1 : X0 ⟨kind,r,fin,mark,mid,ps,txt⟩ = phId := by
   unfold X0;rw [if_neg hhl,if_pos hmk]
  rw [e1];clear e1 hhl HI;generalize (fun W => Qv W (.slice p ps.length c) ps) = E at *
  generalize ps.length = K at *;clear kb;have hm1 : (mark != 0) = true := by simp [hmk]
  have hm2 : (mark == 0) = false := by simp [hmk]
  go_enter Tryz.func58,Tryz.ntmps58;go_wp2_with fail;go_ret;exact Yq.makes _ HKB.out
 have hmk' : mark = 0 := Classical.not_not.1 hmk;subst hmk'
 have ep : X0 ⟨kind, r, fin, 0, mid, ps, txt⟩ = (match qgq fin (par ps 0 1) with
  | some f => f
  | none => match qc8 fin (par ps 0 0) with
   | some f => f
   | none => Zz fin ps) := by
  unfold X0;rw [if_neg hhl,if_neg hmk]
  rfl
 rw [ep];clear ep hhl hmk;have HCN : Hid (∀ X,Calls qP 98 #[] X fun e w' => e = .returned (.agg cntA) ∧ Below X.heap.size X w') := qk1
 have HCH : Hid (∀ X,Calls qP 100 #[] X fun e w' => e = .returned (.agg choA) ∧ Below X.heap.size X w') := qjm
 have hix := q0i fin f0 f1;have hiy := qz9 fin f0 f1;have HP1 : Hid (∀ X,Below w.heap.size w X → Calls qP 99 #[.slice p ps.length c,.int .i64 0,.int .i64 1] X fun e w' => e = .returned (.int .i64 (par ps 0 1)) ∧ X = w') := fun X hX => Vl ps p c 0 1 X (HI.out X hX)
 have HP0 : Hid (∀ X,Below w.heap.size w X → Calls qP 99 #[.slice p ps.length c,.int .i64 0,.int .i64 0] X fun e w' => e = .returned (.int .i64 (par ps 0 0)) ∧ X = w') := fun X hX => Vl ps p c 0 0 X (HI.out X hX)
 have HSP : Hid (∀ X,Below w.heap.size w X → Calls qP 101 #[.int .u8 fin,.slice p ps.length c] X (Zn (fun W => Qv W (.slice p ps.length c) ps) X (Zz fin ps))) := fun X hX => qls fin ps p c X (HI.out X hX) hpl hpa
 have s0 : (w.alloc (.cells #[.int .i64 kind,.int .i32 r,.int .u8 fin,.int .u8 0,.string mid,.slice p ps.length c,.string txt] 71)).drew.cell? ⟨w.heap.size,2,none⟩ = some (.int .u8 fin) ∧ (w.alloc (.cells #[.int .i64 kind,.int .i32 r,.int .u8 fin,.int .u8 0,.string mid,.slice p ps.length c,.string txt] 71)).drew.cell? ⟨w.heap.size,5,none⟩ = some (.slice p ps.length c) := ⟨c2,c5⟩;have k0 : Below w.heap.size w (w.alloc (.cells #[.int .i64 kind,.int .i32 r,.int .u8 fin,.int .u8 0,.string mid,.slice p ps.length c,.string txt] 71)).drew := kb.drew;clear HI hpa kb;generalize (fun W => Qv W (.slice p ps.length c) ps) = E at *
 have hnn := qz8;have hnf := qzp
 rcases qin fin (par ps 0 1) with ⟨v1,v2⟩ | ⟨fid,f,v1,v2,hct⟩
 ·rw [v1] at hix
  rw [v2];clear v1 v2 HP1
  rcases qir fin (par ps 0 0) with ⟨v1,v2⟩ | ⟨fid,f,v1,v2,hct⟩
  ·rw [v1] at hiy
   rw [v2];clear v1 v2 HP0;generalize Zz fin ps = ph at *;generalize ps.length = K at *;go_enter Tryz.func58,Tryz.ntmps58;go_upto_region 5 with fail
   go_region_held3 (fun w' => w'.cell? ⟨w.heap.size, 2, none⟩ = some (.int .u8 fin) ∧ w'.cell? ⟨w.heap.size, 5, none⟩ = some (.slice p K c))
    (first | exact s1 | exact s0)
    ((go_at_call 98;refine (HCN.out _).mono ?_;rintro e V1 ⟨rfl,b1⟩;have s1 : V1.cell? ⟨w.heap.size,2,none⟩ = some (.int .u8 fin) ∧ V1.cell? ⟨w.heap.size,5,none⟩ = some (.slice p K c) := ⟨Qa b1 s0.1,Qa b1 s0.2⟩;have k1 : Below w.heap.size w V1 := k0.trans (b1.mono k0.size);clear b1))
   have s2 : V1.drew.cell? ⟨w.heap.size,2,none⟩ = some (.int .u8 fin) ∧ V1.drew.cell? ⟨w.heap.size,5,none⟩ = some (.slice p K c) := s1;have k2 : Below w.heap.size w V1.drew := k1.drew;clear s0 k0 c0 c1 c2 c3 c4 c5 c6 hix;have s0 := s2;have k0 := k2;obtain ⟨t2,t5⟩ := s1;clear s2 k2;go_upto_region 8 with fail
   clear t2 t5 k1
   go_region_held3 (fun w' => w'.cell? ⟨w.heap.size, 2, none⟩ = some (.int .u8 fin) ∧ w'.cell? ⟨w.heap.size, 5, none⟩ = some (.slice p K c))
    (first | exact s1 | exact s0)
    ((go_at_call 100;refine (HCH.out _).mono ?_;rintro e V1 ⟨rfl,b1⟩;have s1 : V1.cell? ⟨w.heap.size,2,none⟩ = some (.int .u8 fin) ∧ V1.cell? ⟨w.heap.size,5,none⟩ = some (.slice p K c) := ⟨Qa b1 s0.1,Qa b1 s0.2⟩;have k1 : Below w.heap.size w V1 := k0.trans (b1.mono k0.size);clear b1))
   obtain ⟨t2,t5⟩ := s1;have HK1 : Hid _ := k1;go_wp2_with fail;refine (HSP.out V1 HK1.out).mono ?_;rintro e w1 ⟨fid3,caps3,rfl,hF⟩;have HF : Hid _ := Zn.from ⟨fid3,caps3,rfl,hF⟩ HK1.out
   clear hF;go_wp2_with fail;go_ret;exact HF.out
  ·rw [v1] at hiy
   rw [v2];have HBY : Hid (∀ X,Calls qP 88 #[.func (.func fid) #[] #[],.int .i64 (par ps 0 0)] X (Zn E X f)) := fun X => by_m fid _ f hct E X
   clear v1 v2 HSP hct;generalize par ps 0 0 = x at *;generalize ps.length = K at *;go_enter Tryz.func58,Tryz.ntmps58;go_upto_region 5 with fail
   go_region_held3 (fun w' => w'.cell? ⟨w.heap.size, 2, none⟩ = some (.int .u8 fin) ∧ w'.cell? ⟨w.heap.size, 5, none⟩ = some (.slice p K c))
    (first | exact s1 | exact s0)
    ((go_at_call 98;refine (HCN.out _).mono ?_;rintro e V1 ⟨rfl,b1⟩;have s1 : V1.cell? ⟨w.heap.size,2,none⟩ = some (.int .u8 fin) ∧ V1.cell? ⟨w.heap.size,5,none⟩ = some (.slice p K c) := ⟨Qa b1 s0.1,Qa b1 s0.2⟩;have k1 : Below w.heap.size w V1 := k0.trans (b1.mono k0.size);clear b1))
   have s2 : V1.drew.cell? ⟨w.heap.size,2,none⟩ = some (.int .u8 fin) ∧ V1.drew.cell? ⟨w.heap.size,5,none⟩ = some (.slice p K c) := s1;have k2 : Below w.heap.size w V1.drew := k1.drew;clear s0 k0 c0 c1 c2 c3 c4 c5 c6 hix;have s0 := s2;have k0 := k2;obtain ⟨t2,t5⟩ := s1;clear s2 k2;go_upto_region 8 with fail
   clear t2 t5 k1
   go_region_held3 (fun w' => w'.cell? ⟨w.heap.size, 2, none⟩ = some (.int .u8 fin) ∧ w'.cell? ⟨w.heap.size, 5, none⟩ = some (.slice p K c))
    (first | exact s1 | exact s0)
    ((go_at_call 100;refine (HCH.out _).mono ?_;rintro e V1 ⟨rfl,b1⟩;have s1 : V1.cell? ⟨w.heap.size,2,none⟩ = some (.int .u8 fin) ∧ V1.cell? ⟨w.heap.size,5,none⟩ = some (.slice p K c) := ⟨Qa b1 s0.1,Qa b1 s0.2⟩;have k1 : Below w.heap.size w V1 := k0.trans (b1.mono k0.size);clear b1))
   obtain ⟨t2,t5⟩ := s1;have HK1 : Hid _ := k1;go_wp2_with fail;refine (HP0.out _ HK1.out).mono ?_;rintro e X ⟨rfl,rfl⟩;go_wp2_with fail;refine (HBY.out V1).mono ?_;rintro e w1 ⟨fid3,caps3,rfl,hF⟩;have HF : Hid _ := Zn.from ⟨fid3,caps3,rfl,hF⟩ HK1.out
   clear hF;go_wp2_with fail;go_ret;exact HF.out
 ·rw [v1] at hix
  rw [v2];have HBY : Hid (∀ X,Calls qP 88 #[.func (.func fid) #[] #[],.int .i64 (par ps 0 1)] X (Zn E X f)) := fun X => by_m fid _ f hct E X
  clear v1 v2 HSP hct HP0;generalize par ps 0 1 = x at *;generalize ps.length = K at *;go_enter Tryz.func58,Tryz.ntmps58;go_upto_region 5 with fail
  go_region_held3 (fun w' => w'.cell? ⟨w.heap.size, 2, none⟩ = some (.int .u8 fin) ∧ w'.cell? ⟨w.heap.size, 5, none⟩ = some (.slice p K c))
   (first | exact s1 | exact s0)
   ((go_at_call 98;refine (HCN.out _).mono ?_;rintro e V1 ⟨rfl,b1⟩;have s1 : V1.cell? ⟨w.heap.size,2,none⟩ = some (.int .u8 fin) ∧ V1.cell? ⟨w.heap.size,5,none⟩ = some (.slice p K c) := ⟨Qa b1 s0.1,Qa b1 s0.2⟩;have k1 : Below w.heap.size w V1 := k0.trans (b1.mono k0.size);clear b1))
  obtain ⟨t2,t5⟩ := s1;have HK1 : Hid _ := k1;go_wp2_with fail;refine (HP1.out _ HK1.out).mono ?_;rintro e X ⟨rfl,rfl⟩;go_wp2_with fail;refine (HBY.out V1).mono ?_;rintro e w1 ⟨fid3,caps3,rfl,hF⟩;have HF : Hid _ := Zn.from ⟨fid3,caps3,rfl,hF⟩ HK1.out
  clear hF;go_wp2_with fail;go_ret;exact HF.out
def Q9 (e : Prs.Ev) : Phi := if e.kind = 1 then Z4 [e.r] else if e.kind = 2 then Yr e.r else if e.kind = 3 ∧ e.mid.toList.isEmpty = true then Gt e.fin else if e.kind = 4 ∧ e.mid.toList.isEmpty = true then X0 e else if e.kind = 5 then Y8 e.txt else phId
theorem qmm (e : Prs.Ev) (p : Option Addr) (c : Nat) (w : World) (hI : Qv w (.slice p e.ps.length c) e.ps) (hB : Prs.EvB e) : Calls qP 33 #[.agg #[.int .i64 e.kind,.int .i32 e.r,.int .u8 e.fin,.int .u8 e.mark,.string e.mid,.slice p e.ps.length c,.string e.txt]] w (Zn (fun W => Qv W (.slice p e.ps.length c) e.ps) w (Q9 e)) := by
 obtain ⟨kind,r,fin,mark,mid,ps,txt⟩ := e;have x0 := qf w (.cells #[.int .i64 kind,.int .i32 r,.int .u8 fin,.int .u8 mark,.string mid,.slice p ps.length c,.string txt] 71);have kb : Below w.heap.size w (w.alloc (.cells #[.int .i64 kind,.int .i32 r,.int .u8 fin,.int .u8 mark,.string mid,.slice p ps.length c,.string txt] 71)) := (qr _ _).alloc (qd _) _;have HCM := qlj ⟨kind,r,fin,mark,mid,ps,txt⟩ p c _ (hI.next kb) hB;have htl := hB.tl;obtain ⟨c0,c1,c2,c3,c4,c5,c6,-⟩ := Prs.Z8 x0;have HKB : Hid _ := kb;simp only at hI htl HCM ⊢;clear x0 hI hB;generalize (fun W => Qv W (.slice p ps.length c) ps) = E at *
 by_cases h1 : kind = 1
 ·subst h1
  have e1 : Q9 ⟨1,r,fin,mark,mid,ps,txt⟩ = Z4 [r] := rfl;rw [e1];clear HCM e1;generalize ps.length = K at *;have y0 := heap_alloc2_new w (.cells #[.int .i64 1,.int .i32 r,.int .u8 fin,.int .u8 mark,.string mid,.slice p K c,.string txt] 71) (.cells #[.int .i32 r] 21);have k2 : Below w.heap.size w ((w.alloc (.cells #[.int .i64 1,.int .i32 r,.int .u8 fin,.int .u8 mark,.string mid,.slice p K c,.string txt] 71)).alloc (.cells #[.int .i32 r] 21)) := kb.alloc kb.size _;have HPR := qf5 [r] (some ⟨w.heap.size + 1,0,none⟩) 1 ((w.alloc (.cells #[.int .i64 1,.int .i32 r,.int .u8 fin,.int .u8 mark,.string mid,.slice p K c,.string txt] 71)).alloc (.cells #[.int .i32 r] 21)) (by show 1 ≤ 1000000;omega)
  have HY : Hid _ := y0;have HK2 : Hid _ := k2;clear kb k2 y0;go_enter Tryz.func33,Tryz.ntmps33;go_wp2_with fail;refine HPR.mono ?_;rintro e W ⟨fid3,caps3,rfl,hk,hF,hb⟩;have HF : Hid _ := hF;have HK : Hid _ := hk;have HB : Hid _ := hb;clear hF HPR hb hk;go_wp2_with fail;go_ret;refine ⟨_,_,rfl,HK.out,fun X hf _ => HF.out X (hf.inner HK2.out.size (qr _ _)) (.inr ⟨w.heap.size + 1,0,1,rfl,fun j hj => ?_⟩),HK2.out.trans (HB.out.mono HK2.out.size)⟩
  have hb2 := hf.blk (Nat.le_succ _) (Grd.carry HY.out HB.out);have j0 : j = 0 := by
   have : j < 1 := hj;omega
  subst j0;exact Zm hb2
 by_cases h2 : kind = 2
 ·subst h2
  have e1 : Q9 ⟨2,r,fin,mark,mid,ps,txt⟩ = Yr r := rfl;rw [e1];clear HCM e1;have HC := Um r (w.alloc (.cells #[.int .i64 2,.int .i32 r,.int .u8 fin,.int .u8 mark,.string mid,.slice p ps.length c,.string txt] 71));generalize ps.length = K at *;clear kb;go_enter Tryz.func33,Tryz.ntmps33;go_wp2_with fail;refine HC.mono ?_;rintro e W hF;have HF : Hid _ := hF;obtain ⟨fid3,caps3,rfl,-⟩ := hF;clear HC;go_wp2_with fail;go_ret;exact Zn.from (Zn.weak (E := Any1) HF.out fun _ _ => trivial) HKB.out
 by_cases h3 : kind = 3 ∧ mid.toList.isEmpty = true
 ·obtain ⟨rfl, hm⟩ := h3
  have e1 : Q9 ⟨3,r,fin,mark,mid,ps,txt⟩ = Gt fin := by
   unfold Q9;rw [if_neg h1,if_neg h2,if_pos ⟨rfl,hm⟩]
  rw [e1];clear HCM e1;have HC := qrh fin (w.alloc (.cells #[.int .i64 3,.int .i32 r,.int .u8 fin,.int .u8 mark,.string mid,.slice p ps.length c,.string txt] 71));generalize ps.length = K at *;clear kb h1 h2;go_enter Tryz.func33,Tryz.ntmps33;go_wp2_with fail;refine HC.mono ?_;rintro e W hF;have HF : Hid _ := hF;obtain ⟨fid3,caps3,rfl,-⟩ := hF;clear HC;go_wp2_with fail;go_ret;exact Zn.from (Zn.weak (E := Any1) HF.out fun _ _ => trivial) HKB.out
 by_cases h4 : kind = 4 ∧ mid.toList.isEmpty = true
 ·obtain ⟨rfl, hm⟩ := h4
  have e1 : Q9 ⟨4,r,fin,mark,mid,ps,txt⟩ = X0 ⟨4,r,fin,mark,mid,ps,txt⟩ := by
   unfold Q9;rw [if_neg h1,if_neg h2,if_neg h3,if_pos ⟨rfl,hm⟩]
  rw [e1];clear e1;generalize X0 ⟨4,r,fin,mark,mid,ps,txt⟩ = ph at *;generalize ps.length = K at *;clear kb h1 h2 h3;go_enter Tryz.func33,Tryz.ntmps33;go_wp2_with fail;refine HCM.mono ?_;rintro e W hF;have HF : Hid _ := hF;obtain ⟨fid3,caps3,rfl,-⟩ := hF;clear HCM;go_wp2_with fail;go_ret;exact Zn.from HF.out HKB.out
 by_cases h5 : kind = 5
 ·subst h5
  have e1 : Q9 ⟨5,r,fin,mark,mid,ps,txt⟩ = Y8 txt := by
   unfold Q9;rw [if_neg h1,if_neg h2,if_neg h3,if_neg h4,if_pos rfl]
  rw [e1];clear HCM e1;have HC := qqo txt (by omega) (w.alloc (.cells #[.int .i64 5,.int .i32 r,.int .u8 fin,.int .u8 mark,.string mid,.slice p ps.length c,.string txt] 71))
  generalize ps.length = K at *;clear kb h1 h2 h3 h4;go_enter Tryz.func33,Tryz.ntmps33;go_wp2_with fail;refine HC.mono ?_;rintro e W hF;have HF : Hid _ := hF;obtain ⟨fid3,caps3,rfl,-⟩ := hF;clear HC;go_wp2_with fail;go_ret;exact Zn.from (Zn.weak (E := Any1) HF.out fun _ _ => trivial) HKB.out
 ·have e1 : Q9 ⟨kind,r,fin,mark,mid,ps,txt⟩ = phId := by
   unfold Q9;rw [if_neg h1,if_neg h2,if_neg h3,if_neg h4,if_neg h5]
  rw [e1];clear HCM e1;have q1 : (kind == 1) = false := by simp [h1]
  have q2 : (kind == 2) = false := by simp [h2]
  have q5 : (kind == 5) = false := by simp [h5]
  have hem : ∀ b,mid.toList.isEmpty = b → b = true → kind ≠ 3 ∧ kind ≠ 4 := fun b hb e => ⟨fun q => h3 ⟨q,hb.trans e⟩,fun q => h4 ⟨q,hb.trans e⟩⟩
  by_cases k3 : kind = 3
  ·subst k3
   have hm : mid.toList.isEmpty = false := by
    cases hk : mid.toList.isEmpty with
    | false => rfl
    | true => exact absurd rfl (hem _ hk rfl).1
   clear h1 h2 h3 h4 h5 kb hem;generalize ps.length = K at *;go_enter Tryz.func33,Tryz.ntmps33;go_wp2_with fail;go_ret;exact Yq.makes _ HKB.out
  by_cases k4 : kind = 4
  ·subst k4
   have hm : mid.toList.isEmpty = false := by
    cases hk : mid.toList.isEmpty with
    | false => rfl
    | true => exact absurd rfl (hem _ hk rfl).2
   clear h1 h2 h3 h4 h5 kb hem k3;generalize ps.length = K at *;go_enter Tryz.func33,Tryz.ntmps33;go_wp2_with fail;go_ret;exact Yq.makes _ HKB.out
  ·have q3 : (kind == 3) = false := by simp [k3]
   have q4 : (kind == 4) = false := by simp [k4]
   clear h1 h2 h3 h4 h5 kb hem k3 k4;generalize ps.length = K at *;go_enter Tryz.func33,Tryz.ntmps33;go_wp2_with fail;go_ret;exact Yq.makes _ HKB.out
end Put
namespace Prs
def Fq (w : World) (v : Value) (es : List Ev) : Prop := (es = [] ∧ ∃ p c,v = .slice p 0 c) ∨ ∃ b o c,v = .slice (some ⟨b,o,none⟩) es.length c ∧ es.length ≤ c ∧ ∀ i (hi : i < es.length),∃ q,EvAt w b (o + i * 7) es[i] q
theorem Fq.next {w w' : World} {v : Value} {es : List Ev} (h : Fq w v es) (hb : Below w.heap.size w w') : Fq w' v es := by
 rcases h with h | ⟨b,o,c,hv,hl,hc⟩
 ·exact .inl h
 ·exact .inr ⟨b,o,c,hv,hl,fun i hi => (hc i hi).elim fun q hq => ⟨q,hq.next hb⟩⟩
theorem EvsV.cut {w : World} {base : Nat} {v : Value} {es : List Ev} (h : EvsV w base v es) : Fq w v es := by
 rcases h.read with h0 | ⟨b,o,c,hv,hc⟩
 ·exact .inl h0
 ·refine .inr ⟨b, o, c, hv, ?_, hc⟩
  obtain ⟨eqs,hown,rfl,-⟩ := h;subst hv;obtain ⟨-,⟨h,-⟩ | ⟨g,cap,cur,h,-,-,hcc,-⟩⟩ := hown
  ·injection h with h1 h2 h3
   cases h1
  ·injection h with h1 h2 h3
   rw [h3];rw [h2];exact hcc
end Prs
namespace Put
open Grd (C SliceAt Qb Qf z0 Q0 flat Qe)
open Prs (Qv Fq EvAt)
def lead : List Prs.Ev → List Int
 | [] => []
 | e :: es => if e.kind = 1 then e.r :: lead es else []
theorem qgt : ∀ (es : List Prs.Ev), (lead es).length ≤ es.length
 | [] => qd _
 | e :: es => by
  have := qgt es;unfold lead;split
  ·rw [List.length_cons, List.length_cons]
   omega
  ·rw [List.length_nil]
   omega
theorem qs5 (es : List Prs.Ev) (i : Nat) (hi : i < es.length) : lead (es.drop i) = if es[i].kind = 1 then es[i].r :: lead (es.drop (i + 1)) else [] := by
 rw [List.drop_eq_getElem_cons hi]
 rfl
theorem qvo : Tryz.prog.underlying 76 = some (.slice 21) := by kernel_rfl
theorem qpy : (Tryz.prog.info? 21).map (fun i => (i.zero,i.size,i.bytes)) = some (some (.int .i32 0),1,4) := by kernel_rfl
def rnV (l : List Int) : List Value := l.map (Value.int .i32 ·)
theorem qs2 {w : World} {base : Nat} {v : Value} {l : List Int} (h : w.ownsRow base 21 1 v l.length (rnV l)) : I32V w v l := by
 rcases Prs.qa5 h with ⟨rfl,h0,-⟩ | ⟨g,cap,rfl,hc⟩
 ·exact .inl ⟨List.eq_nil_of_length_eq_zero h0,_,_,rfl⟩
 ·refine .inr ⟨g, 0, cap, rfl, fun j hj => ?_⟩
  rw [Nat.zero_add];exact hc j _ (by simp [rnV,hj,qy])
theorem qn3 (es : List Prs.Ev) (p : Option Addr) (c : Nat) (w : World) (hE : Fq w (.slice p es.length c) es) (hn : es.length ≤ 10000) : Calls qP 31 #[.slice p es.length c] w fun e w' => ∃ pa pc,e = .returned (.slice pa (lead es).length pc) ∧ w'.ownsRow w.heap.size 21 1 (.slice pa (lead es).length pc) (lead es).length (rnV (lead es)) ∧ Below w.heap.size w w' := by
 obtain ⟨i0,hi,hzz⟩ := Option.map_eq_some_iff.1 qpy;simp only [Prod.mk.injEq] at hzz;obtain ⟨hz0,hz1,hz2⟩ := hzz;have HEV : Hid (∀ X,Below w.heap.size w X → ∀ i (hi : i < es.length),∃ b o q,p = some ⟨b,o,none⟩ ∧ EvAt X b (o + i * 7) es[i] q) := fun X hX i hi => by
  rcases hE.next hX with ⟨he,-⟩ | ⟨b,o,c,hv,-,hc⟩
  ·exact absurd hi (by rw [he];exact Nat.not_lt_zero _)
  ·injection hv with h1 _ _
   obtain ⟨q,hq⟩ := hc i hi;exact ⟨b,o,q,h1,hq⟩
 have HLD : Hid (∀ i (hi : i < es.length),lead (es.drop i) = if es[i].kind = 1 then es[i].r :: lead (es.drop (i + 1)) else []) := fun i hi => qs5 es i hi
 have HL0 : Hid (lead es = [] ++ lead (es.drop 0)) := rfl;have HLE : Hid (lead (es.drop es.length) = []) := by
  unfold Hid;rw [List.drop_length]
  rfl
 have HLL : Hid ((lead es).length ≤ es.length) := qgt es;clear hE;obtain ⟨K,hK⟩ : ∃ K,es.length = K := ⟨_,rfl⟩;have HK : Hid (es.length = K) := hK;rw [hK] at hn HLE HLL ⊢;clear hK;go_enter Tryz.func31,Tryz.ntmps31;go_wp2_with fail;go_loopg [3,8] K (fun q sv iv wr => ∃ (i : Nat) (l : List Int),iv = .int .i64 (i : Int) ∧ i ≤ K ∧ K - i ≤ q ∧ l.length ≤ i ∧ lead es = l ++ lead (es.drop i) ∧ wr.ownsRow w.heap.size 21 1 sv l.length (rnV l) ∧ Below w.heap.size w wr)
 case atStart => exact ⟨0,[],rfl,by omega,by omega,qd _,HL0.out,World.ownsRow_nil _ _ _ _,qr _ _⟩
 case round =>
  obtain ⟨i,l,rfl,hik,hq,hll,hld,hown,hb⟩ := hrel;have HB : Hid (Below w.heap.size w wr) := hb;have HO : Hid (wr.ownsRow w.heap.size 21 1 _ l.length (rnV l)) := hown;have HD : Hid (lead es = l ++ lead (es.drop i)) := hld;obtain ⟨sa,sc,hsv⟩ := Qz hown;subst hsv;have hwr := hb.size;clear hown hld HL0
  by_cases hlt : i < K
  ·have lt1 : (i : Int) < (K : Int) := by omega
   have hlt' : i < es.length := by rw [HK.out];exact hlt
   obtain ⟨b,o,qv,rfl,hev⟩ := HEV.out wr hb i hlt';have HLI := HLD.out i hlt';obtain ⟨ev,hev0⟩ : ∃ ev,es[i] = ev := ⟨_,rfl⟩;rw [hev0] at hev HLI;clear hev0;obtain ⟨kind,r,fin,mark,mid,ps,txt⟩ := ev;obtain ⟨ra,rc,rfl⟩ := hev.ps.slice;have e0 := hev.c0;have e1 := hev.c1;have e2 := hev.c2;have e3 := hev.c3;have e4 := hev.c4;have e5 := hev.c5;have e6 := hev.c6;simp only at e0 e1 e2 e3 e4 e5 e6 HLI;have HLJ : Hid _ := HLI;clear hev hb HLI;generalize ps.length = np at *;have bA : Below wr.heap.size wr (wr.alloc (.cells #[.int .i64 kind,.int .i32 r,.int .u8 fin,.int .u8 mark,.string mid,.slice ra np rc,.string txt] 71)) := (qr _ _).alloc (qd _) _;have HBA : Hid _ := bA;clear bA
   by_cases h1 : kind = 1
   ·have q1 : (kind != 1) = false := by simp [h1]
    have H1 : Hid (kind = 1) := h1;clear h1;go_wp2_with (at_builtin;refine Hid.out ?_);unfold Hid;have hs2 : (wr.alloc (.cells #[.int .i64 kind,.int .i32 r,.int .u8 fin,.int .u8 mark,.string mid,.slice ra np rc,.string txt] 71)).heap.size = wr.heap.size + 1 := by simp
    generalize wr.alloc (.cells #[.int .i64 kind,.int .i32 r,.int .u8 fin,.int .u8 mark,.string mid,.slice ra np rc,.string txt] 71) = W2 at *;have y2 : (W2.alloc (.cells #[.int .i32 r] 21)).heap[wr.heap.size + 1]? = some (.cells #[.int .i32 r] 21 (0,0)) := by
     have h := qf W2 (.cells #[.int .i32 r] 21);rwa [hs2] at h
    have hown2 := Grd.ownsRow_below HO.out HBA.out;have hfrom := Grd.qb7 HO.out;refine wpList_append_own _ rfl _ _ 76 rfl w.heap.size 21 i0 (.int .i32 0) 1 4 qvo hi hz0 hz1 hz2 rfl (by decide) (.slice sa l.length sc) l.length (rnV l) rfl (hown2.alloc _) ⟨wr.heap.size + 1,0,none⟩ 1 1 [.int .i32 r] rfl rfl (Prs.cells_of_block (L := [.int .i32 r]) y2) (by intro u hu;simp at hu;rw [hu];rfl) (by unfold maxLen;omega) (by omega) (by simp;omega) ?_
    intro v3 W4 hown3 hgr hnil;have kb2 := HB.out.trans (HBA.out.mono HB.out.size);have HB4 : Hid (Below w.heap.size w W4) := (kb2.alloc kb2.size _).grown hgr (by simp;omega) (fun q hq => by have := hfrom q hq;omega)
    have HO4 : Hid (W4.ownsRow w.heap.size 21 1 v3 (l ++ [r]).length (rnV (l ++ [r]))) := by
     unfold Hid rnV;rw [List.length_append,List.map_append];exact hown3
    have HD4 : Hid (lead es = (l ++ [r]) ++ lead (es.drop (i + 1))) := by
     have h := HLJ.out;rw [if_pos H1.out] at h;rw [Hid,HD.out,h,List.append_assoc]
     rfl
    clear hgr hnil hown3 hown2 y2 kb2;go_wp2_with fail;go_roundg (K - (i + 1))
    case measure => omega
    case rel => exact ⟨i + 1,l ++ [r],by go_num,by omega,by omega,by rw [List.length_append,List.length_singleton];omega,HD4.out,HO4.out,HB4.out⟩
   ·have q1 : (kind != 1) = true := by simp [h1]
    have H1 : Hid (¬ kind = 1) := h1;clear h1;go_wp2_with fail;go_ret;have hd := HD.out;have h := HLJ.out;rw [if_neg H1.out] at h;rw [h,List.append_nil] at hd;rw [hd];exact ⟨_,_,rfl,Grd.ownsRow_below HO.out HBA.out,HB.out.trans (HBA.out.mono HB.out.size)⟩
  ·have lt1 : ¬ (i : Int) < (K : Int) := by omega
   have e : i = K := by omega
   subst e;go_wp2_with fail;go_ret;have hd := HD.out;rw [HLE.out,List.append_nil] at hd;rw [hd];exact ⟨_,_,rfl,HO.out,HB.out⟩
end Put
end Go.Proofs.YtooobiigijphkaaGreatDoor
