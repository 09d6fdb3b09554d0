/- Parts of the proof, shortened by a program. -/
import Derived.Test.YtooobiigijphkaaGreatDoorPartR
import Derived.Test.YtooobiigijphkaaGreatDoorPartD
import Derived.Lib.IndexLaws
import Derived.Test.YtooobiigijphkaaGreatDoorPartQ
import Derived.Test.YtooobiigijphkaaGreatDoorProg
import Derived.Deep.RegionHeld3
set_option maxHeartbeats 8000000
open List renaming setIfInBounds_toArray → qa, set_cons_zero → qb, set_cons_succ → qc, getD → qy
open Nat renaming le_refl → qd
open Go renaming heap_alloc_new → qf, setRow_other → qg, below_setRow → qi, setRow_heap → qj, wpAnyH_ready → qm
open Go.RowKit.Below renaming refl → qr, heap_alloc → qs
open Go.AllReadyH renaming nil → qt
open Go.Proofs.Tryz renaming prog → qP, underlying32 → qu
open Go.Act renaming put → qx
namespace Go.Proofs.YtooobiigijphkaaGreatDoor
set_option linter.unusedVariables false
set_option linter.unusedSimpArgs false
set_option maxRecDepth 100000
open Go.ChangeShapes Go.WideShapes Go.ChangeAt Go.RowKit
namespace Prs
theorem qdk (s : St) (p : Option Addr) (c : Nat) (w : World) (hT : Tabs w) (hI : Qv w (.slice p s.ps.length c) s.ps) (hm : s.mid.size ≤ 9223372036854775807) (ht : s.txt.size ≤ 9223372036854775807) (h2 : s.at' = 2) (h0 : ¬ s.mark = 0) :
  Calls qP 47 #[.agg (sAq s (.slice p s.ps.length c))] w fun e w' => e = .returned (.bool (parts s)) ∧ Below w.heap.size w w' := by
 have x0 := qf w (.cells (sAq s (.slice p s.ps.length c)) 35);have kb : Below w.heap.size w (w.alloc (.cells (sAq s (.slice p s.ps.length c)) 35)) := (qr _ _).alloc (qd _) _;obtain ⟨c0,c1,c2,c3,c4,c5,c6,cf⟩ := Z8 x0;have b2 : (s.at' == 2) = true := by rw [beq_iff_eq];exact h2
 have b0 : (s.mark == 0) = false := by rw [beq_eq_false_iff_ne];exact h0
 have HX0 : Hid ((w.alloc (.cells (sAq s (.slice p s.ps.length c)) 35)).heap[w.heap.size]? = some (.cells (sAq s (.slice p s.ps.length c)) 35 (0,0))) := x0;have HKB : Hid (Below w.heap.size w (w.alloc (.cells (sAq s (.slice p s.ps.length c)) 35))) := kb;have HT : Hid (Tabs (w.alloc (.cells (sAq s (.slice p s.ps.length c)) 35))) := hT.next kb;have HI : Hid (∀ W,Below w.heap.size w W → Qv W (.slice p s.ps.length c) s.ps) := fun W hb => hI.next hb
 have HPA : Hid (parts s = (!(decide (s.at' = 2) && decide (s.mid.size = 0)) && ((decide (s.left.size = 0) || !full s.left) && ((decide (s.mark = 0) || Xa s.mark) && (decide (s.mid.size ≤ 2) && (Ud Zx s.mid && (decide (s.ps.length ≤ 16) && (!qag s.ps && (decide (s.txt.size ≤ 64) && Ud high s.txt))))))))) := rfl;have H2 : Hid (s.at' = 2) := h2;have H0 : Hid (¬ s.mark = 0) := h0;have HMT : Hid (s.mid.size ≤ 9223372036854775807 ∧ s.txt.size ≤ 9223372036854775807) := ⟨hm,ht⟩;generalize parts s = res at HPA ⊢;clear cf x0 kb hT hI h2 h0 hm ht;go_enter Tryz.func47,Tryz.ntmps47
 go_wp2_with (first
  | (go_at_call 72;refine (Vy s.left _ HT.out).mono ?_;rintro e W1 ⟨rfl,b1⟩;obtain ⟨d0,d1,d2,d3,d4,d5,d6,df⟩ := Z8 (stay HX0.out b1);have HK1 : Hid (Below w.heap.size w W1) := HKB.out.trans (b1.mono HKB.out.size);clear b1 df)
  | (go_at_call 73;refine (Gw _ _).mono ?_;rintro e W2 ⟨rfl,e2⟩;rw [e2];clear e2 W2)
  | (go_at_call 76;refine (Yx s.ps _ _ (HI.out _ (by first | exact HK1.out | exact HKB.out)) (by omega)).mono ?_;rintro e W2 ⟨rfl,e2⟩;rw [e2];clear e2 W2)
  | (go_at_call_of 74 s.mid;refine (qa7 _ _ HMT.out.1).mono ?_;rintro e W2 ⟨rfl,e2⟩;rw [e2];clear e2 W2)
  | (go_at_call_of 74 s.txt;refine (Fy _ _ HMT.out.2).mono ?_;rintro e W2 ⟨rfl,e2⟩;rw [e2];clear e2 W2))
 all_goals (go_ret;refine ⟨Qh ?_,by first | exact HK1.out | exact HKB.out⟩)
 all_goals (have q2 := H2.out;have q0 := H0.out;rw [HPA.out];clear HPA H2 H0 HT HI HMT HX0 HKB b2 b0 c0 c1 c2 c3 c4 c5 c6;(try simp only [ieT,ieF,qdq,le2,le16,le64,lt2,lt16,lt64] at *);simp only [*];simp)
theorem qdc (s : St) (p : Option Addr) (c : Nat) (w : World) (hT : Tabs w) (hI : Qv w (.slice p s.ps.length c) s.ps) (hm : s.mid.size ≤ 9223372036854775807) (ht : s.txt.size ≤ 9223372036854775807) (h2 : s.at' = 2) (h0 : s.mark = 0) :
  Calls qP 47 #[.agg (sAq s (.slice p s.ps.length c))] w fun e w' => e = .returned (.bool (parts s)) ∧ Below w.heap.size w w' := by
 have x0 := qf w (.cells (sAq s (.slice p s.ps.length c)) 35);have kb : Below w.heap.size w (w.alloc (.cells (sAq s (.slice p s.ps.length c)) 35)) := (qr _ _).alloc (qd _) _;obtain ⟨c0,c1,c2,c3,c4,c5,c6,cf⟩ := Z8 x0;have b2 : (s.at' == 2) = true := by rw [beq_iff_eq];exact h2
 have b0 : (s.mark == 0) = true := by rw [beq_iff_eq];exact h0
 have HX0 : Hid ((w.alloc (.cells (sAq s (.slice p s.ps.length c)) 35)).heap[w.heap.size]? = some (.cells (sAq s (.slice p s.ps.length c)) 35 (0,0))) := x0;have HKB : Hid (Below w.heap.size w (w.alloc (.cells (sAq s (.slice p s.ps.length c)) 35))) := kb;have HT : Hid (Tabs (w.alloc (.cells (sAq s (.slice p s.ps.length c)) 35))) := hT.next kb;have HI : Hid (∀ W,Below w.heap.size w W → Qv W (.slice p s.ps.length c) s.ps) := fun W hb => hI.next hb
 have HPA : Hid (parts s = (!(decide (s.at' = 2) && decide (s.mid.size = 0)) && ((decide (s.left.size = 0) || !full s.left) && ((decide (s.mark = 0) || Xa s.mark) && (decide (s.mid.size ≤ 2) && (Ud Zx s.mid && (decide (s.ps.length ≤ 16) && (!qag s.ps && (decide (s.txt.size ≤ 64) && Ud high s.txt))))))))) := rfl;have H2 : Hid (s.at' = 2) := h2;have H0 : Hid (s.mark = 0) := h0;have HMT : Hid (s.mid.size ≤ 9223372036854775807 ∧ s.txt.size ≤ 9223372036854775807) := ⟨hm,ht⟩;generalize parts s = res at HPA ⊢;clear cf x0 kb hT hI h2 h0 hm ht;go_enter Tryz.func47,Tryz.ntmps47
 go_wp2_with (first
  | (go_at_call 72;refine (Vy s.left _ HT.out).mono ?_;rintro e W1 ⟨rfl,b1⟩;obtain ⟨d0,d1,d2,d3,d4,d5,d6,df⟩ := Z8 (stay HX0.out b1);have HK1 : Hid (Below w.heap.size w W1) := HKB.out.trans (b1.mono HKB.out.size);clear b1 df)
  | (go_at_call 73;refine (Gw _ _).mono ?_;rintro e W2 ⟨rfl,e2⟩;rw [e2];clear e2 W2)
  | (go_at_call 76;refine (Yx s.ps _ _ (HI.out _ (by first | exact HK1.out | exact HKB.out)) (by omega)).mono ?_;rintro e W2 ⟨rfl,e2⟩;rw [e2];clear e2 W2)
  | (go_at_call_of 74 s.mid;refine (qa7 _ _ HMT.out.1).mono ?_;rintro e W2 ⟨rfl,e2⟩;rw [e2];clear e2 W2)
  | (go_at_call_of 74 s.txt;refine (Fy _ _ HMT.out.2).mono ?_;rintro e W2 ⟨rfl,e2⟩;rw [e2];clear e2 W2))
 all_goals (go_ret;refine ⟨Qh ?_,by first | exact HK1.out | exact HKB.out⟩)
 all_goals (have q2 := H2.out;have q0 := H0.out;rw [HPA.out];clear HPA H2 H0 HT HI HMT HX0 HKB b2 b0 c0 c1 c2 c3 c4 c5 c6;(try simp only [ieT,ieF,qdq,le2,le16,le64,lt2,lt16,lt64] at *);simp only [*];simp)
theorem qct (s : St) (p : Option Addr) (c : Nat) (w : World) (hT : Tabs w) (hI : Qv w (.slice p s.ps.length c) s.ps) (hm : s.mid.size ≤ 9223372036854775807) (ht : s.txt.size ≤ 9223372036854775807) :
  Calls qP 47 #[.agg (sAq s (.slice p s.ps.length c))] w fun e w' => e = .returned (.bool (parts s)) ∧ Below w.heap.size w w' := by
 by_cases h2 : s.at' = 2
 ·by_cases h0 : s.mark = 0
  ·exact qdc s p c w hT hI hm ht h2 h0
  ·exact qdk s p c w hT hI hm ht h2 h0
 ·by_cases h0 : s.mark = 0
  ·exact qdf s p c w hT hI hm ht h2 h0
  ·exact qd6 s p c w hT hI hm ht h2 h0
def q00 (mk : Int) (mid txt left : ByteArray) (n : Nat) (late : Bool) : Bool := decide (mk = 0) && (decide (mid.size = 0) && (decide (n = 0) && (decide (txt.size = 0) && (decide (left.size = 0) && !late))))
theorem qwz (a mk : Int) (mid txt left : ByteArray) (p : Option Addr) (n c : Nat) (late : Bool) (w : World) :
  Calls qP 46 #[.agg #[.int .i64 a,.int .u8 mk,.string mid,.slice p n c,.string txt,.string left,.bool late]] w fun e w' => e = .returned (.bool (q00 mk mid txt left n late)) ∧ Below w.heap.size w w' := qre a mk mid txt left p n c late w
theorem Qv.slice {w : World} {v : Value} {l : List Int} (h : Qv w v l) : ∃ p c,v = .slice p l.length c := by
 rcases h with ⟨rfl,p0,n0,rfl⟩ | ⟨b,o,c,rfl,hc⟩
 ·exact ⟨_,_,rfl⟩
 ·exact ⟨_,_,rfl⟩
theorem Xd (s : St) (pv : Value) (w : World) (hT : Tabs w) (hI : Qv w pv s.ps) (hm : s.mid.size ≤ 9223372036854775807) (ht : s.txt.size ≤ 9223372036854775807) :
  Calls qP 25 #[.agg (sAq s pv)] w fun e w' => e = .returned (.bool (okS s)) ∧ Below w.heap.size w w' := by
 obtain ⟨p,c,rfl⟩ := hI.slice;have z0 := qf w (.cells (sAq s (.slice p s.ps.length c)) 35);obtain ⟨a0,a1,a2,a3,a4,a5,a6,af⟩ := Z8 z0;have HZ : Hid (∀ o,((w.alloc (.cells (sAq s (.slice p s.ps.length c)) 35)).alloc o).heap[w.heap.size]? = some (.cells (sAq s (.slice p s.ps.length c)) 35 (0,0))) := fun o => qao _ _ z0
 have HKK : Hid (∀ o,Below w.heap.size w ((w.alloc (.cells (sAq s (.slice p s.ps.length c)) 35)).alloc o)) := fun o => Kh w _ _
 clear z0 af;have HT : Hid (Tabs w) := hT;have HI : Hid (Qv w (.slice p s.ps.length c) s.ps) := hI;have HMT : Hid (s.mid.size ≤ 9223372036854775807 ∧ s.txt.size ≤ 9223372036854775807) := ⟨hm,ht⟩;have HOK : Hid (okS s = ((decide (0 ≤ s.at') && decide (s.at' ≤ 5)) && (q00 (Gy s).mark (Gy s).mid (Gy s).txt (Gy s).left (Gy s).ps.length (Gy s).late && parts s))) := rfl;generalize okS s = res at HOK ⊢;clear hT hI hm ht;go_enter Tryz.func25,Tryz.ntmps25
 go_wp2_with (first
  | (go_at_call 46
     refine (qwz _ _ _ _ _ _ _ _ _ _).mono ?_;rintro e W1 ⟨rfl,b1⟩;obtain ⟨d0,d1,d2,d3,d4,d5,d6,df⟩ := Z8 (stay (HZ.out _) b1);have HK1 : Hid (Below w.heap.size w W1) := (HKK.out _).trans (b1.mono (HKK.out _).size)
     clear b1 df)
  | (go_at_call 47
     refine (qct s p c _ (HT.out.next HK1.out) (HI.out.next HK1.out) HMT.out.1 HMT.out.2).mono ?_;rintro e W2 ⟨rfl,b2⟩;have HK2 : Hid (Below w.heap.size w W2) := HK1.out.trans (b2.mono HK1.out.size)
     clear b2))
 all_goals (go_ret;refine ⟨Qh ?_,by first | exact HK2.out | exact HK1.out | exact HKK.out _⟩)
 all_goals (rw [HOK.out];clear HOK HZ HKK HT HI HMT a0 a1 a2 a3 a4 a5 a6)
 all_goals (try clear d0 d1 d2 d3 d4 d5 d6 HK1)
 all_goals (simp only [beq_iff_eq,beq_eq_false_iff_ne,ne_eq] at *)
 all_goals first
  | (simp only [Gy,nt, *];simp [*];done)
  | (rw [show (decide (0 ≤ s.at') && decide (s.at' ≤ 5)) = false from by rw [← Bool.not_eq_true,Bool.and_eq_true,decide_eq_true_eq,decide_eq_true_eq];omega];rfl)
theorem qa6 {w : World} {b o : Nat} {l : List Int} (h : ∀ j u,(ints l)[j]? = some u → w.cell? ((⟨b,o,none⟩ : Addr).add j) = some u) : ∀ j,j < l.length → w.cell? ⟨b,o + j,none⟩ = some (.int .i64 (l.getD j 0)) := fun j hj => by
 have h1 := h j (.int .i64 l[j]) (by simp [ints,List.getElem?_eq_getElem hj])
 rw [Addr.add_mid] at h1;rw [h1,List.getD_eq_getElem?_getD,List.getElem?_eq_getElem hj]
 rfl
theorem qui (l m : List Int) (v u : Value) (w : World) (hv : Qv w v l) (hu : Qv w u m) (hl : l.length ≤ 9223372036854775807) (hm : m.length ≤ 9223372036854775807) :
  Calls qP 24 #[v,u] w fun e w' => e = .returned (.bool (l == m)) ∧ Below w.heap.size w w' := by
 by_cases hne : l.length = m.length
 ·rcases hv with ⟨rfl, p0, n0, rfl⟩ | ⟨b, o, c, rfl, hc⟩
  ·obtain ⟨p, d, rfl⟩ := hu.slice
   refine (Tryz.slices_Equal_int_empty _ _ _ _ _ _ hm).mono ?_;rintro e w' ⟨rfl,rfl⟩;refine ⟨Qh ?_,qr _ _⟩
   cases m with
   | nil => rfl
   | cons x m => simp at hne
  ·rcases hu with ⟨rfl, p0, n0, rfl⟩ | ⟨b', o', c', rfl, hc'⟩
   ·have : l = [] := List.eq_nil_of_length_eq_zero hne
    subst this;refine (Tryz.slices_Equal_int_empty _ _ _ _ _ _ hm).mono ?_;rintro e w' ⟨rfl,rfl⟩;exact ⟨rfl,qr _ _⟩
   ·refine (Tryz.slices_Equal_int b o l.length c b' o' m.length c' l m w (qd _) (qd _) hl hm (qa6 hc) (qa6 hc')).mono ?_
    rintro e w' ⟨rfl,q,rfl⟩;exact ⟨by rw [List.take_length,List.take_length],⟨rfl,rfl,rfl,qd _,fun _ _=>rfl⟩⟩
 ·obtain ⟨p, c, rfl⟩ := hv.slice
  obtain ⟨p',c',rfl⟩ := hu.slice;refine (Tryz.slices_Equal_int_lens _ _ _ _ _ _ _ hne).mono ?_;rintro e w' ⟨rfl,rfl⟩;refine ⟨Qh ?_,qr _ _⟩;rw [eq_comm,beq_eq_false_iff_ne];exact fun h => hne (by rw [h])
theorem qgd (s : St) (pv qv : Value) (w : World) (hp : Qv w pv s.ps) (hq : Qv w qv s.ps) (hl : s.ps.length ≤ 9223372036854775807) :
  Calls qP 8 #[.agg (sAq s pv),.agg (sAq s qv)] w fun e w' => e = .returned (.bool true) ∧ Below w.heap.size w w' := by
 have x0 : ((w.alloc (.cells (sAq s pv) 35)).alloc (.cells (sAq s qv) 35)).heap[w.heap.size]? = some (.cells (sAq s pv) 35 (0,0)) := qao _ _ (qf w _);have x1 := qcf w (.cells (sAq s pv) 35) (.cells (sAq s qv) 35);have kk := Kh w (.cells (sAq s pv) 35) (.cells (sAq s qv) 35);have HEQ := qui s.ps s.ps pv qv _ (hp.next kk) (hq.next kk) hl hl;obtain ⟨c0,c1,c2,c3,c4,c5,c6,cf⟩ := Z8 x0;obtain ⟨d0,d1,d2,d3,d4,d5,d6,df⟩ := Z8 x1;have HX0 : Hid _ := x0;have HX1 : Hid _ := x1;have HKK : Hid _ := kk;rw [show (s.ps == s.ps) = true from beq_self_eq_true _] at HEQ
 clear cf df x0 x1 kk hp hq hl;go_enter Tryz.func8,Tryz.ntmps8;go_wp2_with fail;refine HEQ.mono ?_;rintro e W1 ⟨rfl,b1⟩;obtain ⟨e0,e1,e2,e3,e4,e5,e6,ef⟩ := Z8 (stay HX0.out b1);obtain ⟨g0,g1,g2,g3,g4,g5,g6,gf⟩ := Z8 (stay HX1.out b1);have HK1 : Hid (Below w.heap.size w W1) := HKK.out.trans (b1.mono HKK.out.size);clear ef gf b1 HX0 HX1 HKK;go_wp2_with fail;go_ret;exact ⟨rfl,HK1.out⟩
end Prs
namespace Put
open Prs (Qv)
def par (ps : List Int) (i : Nat) (d : Int) : Int := if ps.length ≤ i then d else if ps.getD i 0 = -1 then d else ps.getD i 0
def Gq (m k : Int) : Int := if m = 0 ∧ k = 4 then 1 else if m ≠ 63 then 0 else if k = 1 then 16 else if k = 6 then 2 else if k = 7 then 4 else if k = 25 then 8 else if k = 2004 then 32 else 0
theorem qlt {w : World} {p : Option Addr} {m c : Nat} {l : List Int} (h : Qv w (.slice p m c) l) (j : Nat) (hj : j < l.length) : ∃ b o,p = some ⟨b,o,none⟩ ∧ w.cell? ⟨b,o + j,none⟩ = some (.int .i64 (l.getD j 0)) := by
 rcases h with ⟨rfl,_⟩ | ⟨b,o,c,hv,hc⟩
 ·exact absurd hj (Nat.not_lt_zero _)
 ·injection hv with h1 _ _
  exact ⟨b,o,h1,Prs.qa6 hc j hj⟩
theorem Vl (ps : List Int) (p : Option Addr) (c : Nat) (i : Nat) (d : Int) (w : World) (hI : Qv w (.slice p ps.length c) ps) : Calls qP 99 #[.slice p ps.length c,.int .i64 (i : Int),.int .i64 d] w fun e w' => e = .returned (.int .i64 (par ps i d)) ∧ w = w' := by
 by_cases h : ps.length ≤ i
 ·have e : par ps i d = d := by unfold par; rw [if_pos h]
  rw [e];have h1 : (ps.length : Int) ≤ (i : Int) := by omega
  clear hI e;generalize ps.length = K at *;go_enter Tryz.func99,Tryz.ntmps99;go_wp2_with fail;go_ret;exact ⟨rfl,rfl⟩
 ·obtain ⟨b, o, rfl, c1⟩ := qlt hI i (by omega)
  have h1 : ¬ (ps.length : Int) ≤ (i : Int) := by omega
  have h2 : (i : Int) < (ps.length : Int) := by omega
  have e : par ps i d = if ps.getD i 0 = -1 then d else ps.getD i 0 := by unfold par;rw [if_neg h]
  rw [e];clear hI e;generalize ps.getD i 0 = y at *;generalize ps.length = K at *
  by_cases h3 : y = -1
  ·rw [if_pos h3]
   have h4 : (y == -1) = true := by simp [h3]
   have H3 : Hid (y = -1) := h3;clear h3;go_enter Tryz.func99,Tryz.ntmps99;go_wp2_with fail;go_ret;exact ⟨rfl,rfl⟩
  ·rw [if_neg h3]
   have h4 : (y == -1) = false := by simp [h3]
   go_enter Tryz.func99,Tryz.ntmps99;go_wp2_with fail;go_ret;exact ⟨rfl,rfl⟩
theorem qqn (m k : Int) (w : World) : Calls qP 141 #[.int .u8 m,.int .i64 k] w fun e w' => e = .returned (.int .i64 (Gq m k)) ∧ w = w' := by
 go_enter Tryz.func141,Tryz.ntmps141;go_wp2_with fail
 all_goals go_ret
 all_goals exact ⟨by simp_all [Gq],rfl⟩
def cutN (t : ByteArray) : ByteArray := if Lib.indexByte t.data.toList 59 < 0 then t else t.extract 0 (Lib.indexByte t.data.toList 59).toNat
def cutT (t : ByteArray) : ByteArray := if Lib.indexByte t.data.toList 59 < 0 then ⟨#[]⟩ else t.extract ((Lib.indexByte t.data.toList 59).toNat + 1) t.size
theorem qxv (t : ByteArray) : (cutT t).size ≤ t.size := by
 unfold cutT;split
 ·exact Nat.zero_le _
 ·rw [ByteArray.size_extract]
  omega
theorem qu9 (t : ByteArray) (ht : t.size ≤ 1048576) (w : World) : Calls qP 165 #[.string t,.string ⟨#[59]⟩] w fun e w' => ∃ f,e = .returned (.tuple #[.string (cutN t),.string (cutT t),.bool f]) ∧ Below w.heap.size w w' := by
 have HI := Tryz.stringslite_Index_one t 59 w;have hge := Lib.indexByte_ge t.data.toList 59
 by_cases h : Lib.indexByte t.data.toList 59 < 0
 ·have e1 : cutN t = t := by unfold cutN; rw [if_pos h]
  have e2 : cutT t = ⟨#[]⟩ := by unfold cutT;rw [if_pos h]
  rw [e1,e2];clear e1 e2;generalize Lib.indexByte t.data.toList 59 = k at *;have h1 : ¬ (0 ≤ k) := by omega
  go_enter Tryz.func165,Tryz.ntmps165;go_wp2_with fail;refine HI.mono ?_;rintro e w' ⟨rfl,rfl⟩;go_wp2_with fail;go_ret3;exact ⟨_,rfl,qr _ _⟩
 ·obtain ⟨k, hk⟩ : ∃ k : Nat, Lib.indexByte t.data.toList 59 = (k : Int) := ⟨(Lib.indexByte t.data.toList 59).toNat, by omega⟩
  have hs := (Lib.indexByte_some hk).1;have hlt : k < t.size := by
   have := (List.getElem?_eq_some_iff.1 hs).1;rw [Array.length_toList] at this;exact this
  have e1 : cutN t = t.extract 0 k := by unfold cutN;rw [if_neg h,hk];rfl
  have e2 : cutT t = t.extract (k + 1) t.size := by unfold cutT;rw [if_neg h,hk];rfl
  rw [e1,e2];rw [hk] at HI;clear e1 e2 hk hs h hge;have a1 : k ≤ t.size := by omega
  have a2 : k + 1 ≤ t.size := by omega
  have a3 : (k : Int) + 1 ≤ 9223372036854775807 := by omega
  have a4 : wrap64 ((k : Int) + 1) = (k : Int) + 1 := by
   unfold wrap64;omega
  go_enter Tryz.func165,Tryz.ntmps165;go_wp2_with fail;refine HI.mono ?_;rintro e w' ⟨rfl,rfl⟩;go_wp2_with fail;go_region;go_wp2_with fail;go_ret3;exact ⟨_,rfl,(qr _ _).drew⟩
theorem qzd (t : ByteArray) (ht : t.size ≤ 1048576) (w : World) : Calls qP 102 #[.string t,.string ⟨#[59]⟩] w fun e w' => ∃ f,e = .returned (.tuple #[.string (cutN t),.string (cutT t),.bool f]) ∧ Below w.heap.size w w' := by
 have HI := qu9 t ht w;go_enter Tryz.func102,Tryz.ntmps102;go_wp2_with fail;refine HI.mono ?_;rintro e w' ⟨f,rfl,hb⟩;go_wp2_with fail;go_ret3;exact ⟨_,rfl,hb⟩
end Put
namespace Put
open Grd (C SliceAt Qb Qf z0 Q0 flat Qe)
def phId : Phi := fun _ _ s => s
theorem Kq : Xf phId := fun _ _ _ h => h
def Qu (fs : List Phi) : Phi := fun n hh s => fs.foldl (fun s f => f n hh s) s
theorem K9 (fs gs : List Phi) (n hh : Nat) (s : Scr) : Qu (fs ++ gs) n hh s = Qu gs n hh (Qu fs n hh s) := by
 unfold Qu;rw [List.foldl_append]
theorem Jo : ∀ {fs : List Phi}, (∀ f, f ∈ fs → Xf f) → Xf (Qu fs)
 | [],_ => Kq
 | f :: fs,h => fun s n hh hR => Jo (fs := fs) (fun g hg => h g (List.mem_cons_of_mem _ hg)) _ n hh (h f List.mem_cons_self s n hh hR)
def prL (l : List Int) : List (Int × Nat) := l.map fun r => (r,0)
def Z4 (l : List Int) : Phi := fun n hh s => { (Vm n (s,Qe n s.cs hh) (prL l)).1 with cs := (Vm n (s,Qe n s.cs hh) (prL l)).2.flatten }
theorem PJ.prns {n hh : Nat} : ∀ (l : List (Int × Nat)) {s : Scr} {rows : List (List C)}, PJ n hh s rows → PJ n hh (Vm n (s, rows) l).1 (Vm n (s, rows) l).2
 | [],_,_,h => h
 | r :: l,_,_,h => PJ.prns l (h.print r.1)
theorem Uk (l : List Int) : Xf (Z4 l) := fun _ _ _ h => ((PJ.start h).prns (prL l)).r
theorem qjr {n hh : Nat} {s : Scr} (h : Qg s n hh) (a b : List Int) : Z4 b n hh (Z4 a n hh s) = Z4 (a ++ b) n hh s := by
 have hj := (PJ.start h).prns (prL a);have e : Qe n (Z4 a n hh s).cs hh = (Vm n (s,Qe n s.cs hh) (prL a)).2 := hj.back;have el : prL (a ++ b) = prL a ++ prL b := List.map_append;have k : Vm n (Z4 a n hh s,Qe n (Z4 a n hh s).cs hh) (prL b) = ({ (Vm n (s,Qe n s.cs hh) (prL (a ++ b))).1 with cs := (Vm n (s,Qe n s.cs hh) (prL a)).2.flatten },(Vm n (s,Qe n s.cs hh) (prL (a ++ b))).2) := by
  rw [e,el,qeg];exact qr9 n _ (prL b) _ _
 show ({ (Vm n (Z4 a n hh s,Qe n (Z4 a n hh s).cs hh) (prL b)).1 with cs := (Vm n (Z4 a n hh s,Qe n (Z4 a n hh s).cs hh) (prL b)).2.flatten } : Scr) = _
 rw [k]
 rfl
theorem qi1 {n hh : Nat} {s : Scr} (h : Qg s n hh) : Z4 [] n hh s = s := by
 show ({ s with cs := (Qe n s.cs hh).flatten } : Scr) = s
 rw [h.flatten]
def Yr (r : Int) : Phi := if r = 8 then qkw 1 else if r = 9 then qr0 1 else if r = 10 ∨ r = 11 ∨ r = 12 then qdv else if r = 13 then Km else phId
def Gt (f : Int) : Phi := if f = 55 then qk0 else if f = 56 then qjw else if f = 68 then qdv else if f = 69 then Qu [Km,qdv] else if f = 72 then qlz else if f = 77 then qxa else if f = 99 then qrw else phId
def Xr (m : Int) (on : Bool) : List Int → List Phi
 | [] => []
 | k :: l => if Gq m k = 0 then Xr m on l else qex (Gq m k) (on != decide (Gq m k = 8)) :: Xr m on l
def Y8 (t : ByteArray) : Phi := if ((cutN t).toList ≠ [48] ∧ (cutN t).toList ≠ [50]) ∨ (cutT t).toList = [] then phId else qgn (cutT t)
def qgq (f : Int) (k : Int) : Option Phi := if f = 64 then some (q02 k) else if f = 65 then some (phUp k) else if f = 66 then some (qfn k) else if f = 67 then some (qld k) else if f = 68 then some (qkw k) else if f = 71 then some (qhc k) else if f = 73 then some (qr0 k) else if f = 76 then some (qya k) else if f = 77 then some (qyx k) else if f = 80 then some (q03 k) else if f = 83 then some (q0x k) else if f = 84 then some (qr8 k) else if f = 88 then some (qsv k) else if f = 90 then some (qiw k) else if f = 96 then some (qhc k) else if f = 97 then some (qld k) else if f = 98 then some (qs0 k) else if f = 100 then some (q1a k) else if f = 101 then some (qfn k) else none
def qc8 (f : Int) (k : Int) : Option Phi := if f = 74 then some (Uz k) else if f = 75 then some (qxj k) else if f = 103 then some (qfr k) else none
def Zz (f : Int) (ps : List Int) : Phi :=
 if f = 69 then Qu [qfn (par ps 0 1),Km] else if f = 70 then Qu [phUp (par ps 0 1),Km] else if f = 72 ∨ f = 102 then phTo (par ps 0 1) (par ps 1 1) else if f = 109 then qav (ps.map fun p => if p = -1 then 0 else p) else if f = 114 then qfg (par ps 0 0) (par ps 1 0) else if f = 115 then qk0 else if f = 117 then qjw else phId
def X0 (e : Prs.Ev) : Phi :=
 if e.fin = 104 ∨ e.fin = 108 then Qu (Xr e.mark (decide (e.fin = 104)) e.ps)
 else if e.mark ≠ 0 then phId
 else match qgq e.fin (par e.ps 0 1) with
  | some f => f
  | none => match qc8 e.fin (par e.ps 0 0) with
   | some f => f
   | none => Zz e.fin e.ps
theorem qg9 : Plain 53 := fun _ _ => by kernel_rfl
theorem qe5 : Plain 54 := fun _ _ => by kernel_rfl
theorem qdo : Plain 55 := fun _ _ => by kernel_rfl
theorem qh9 (M : Nat) (w : World) (s : Scr) (rows : List (List C)) : Does 53 #[] M w s s rows rows := by
 intro W p hb hS;have HS : Hid _ := hS;clear hS;go_enter Tryz.func53,Tryz.ntmps53;go_wp2_with fail;go_end0;exact ⟨rfl,HS.out,qr _ _⟩
theorem Yq : Ct 30 #[] phId := ⟨fun _ _ => by kernel_rfl, Kq, fun w0 w s cv tv gv n hh hm hR => by
  have hz := Yh hR;have key := ql4 s s cv tv gv w0 w hm.m.t hm.m.v hm.m.b hm.m.f;rw [hz] at key
  exact key fun W hW => Jl n hh s s (Qe n s.cs hh) cv tv gv _ qg9 #[] w0 W hm.m.v (hm.m.b.trans (hW.mono hm.m.b.size)) hm.m.f hR.w hR.h hR.gz (fun w1 _ => qh9 _ w1 s _) (Ya hR s rfl) s.cs hR.flatten⟩
def I32V (w : World) (v : Value) (l : List Int) : Prop := (l = [] ∧ ∃ p c,v = .slice p 0 c) ∨ ∃ b o c,v = .slice (some ⟨b,o,none⟩) l.length c ∧ ∀ j,j < l.length → w.cell? ⟨b,o + j,none⟩ = some (.int .i32 (l.getD j 0))
theorem I32V.next {w w' : World} {v : Value} {l : List Int} (h : I32V w v l) (hb : Below w.heap.size w w') : I32V w' v l := by
 rcases h with h | ⟨b,o,c,hv,hc⟩
 ·exact .inl h
 ·exact .inr ⟨b,o,c,hv,fun j hj => Qa hb (hc j hj)⟩
theorem I32V.slice {w : World} {v : Value} {l : List Int} (h : I32V w v l) : ∃ p c,v = .slice p l.length c := by
 rcases h with ⟨rfl,p,c,rfl⟩ | ⟨b,o,c,rfl,-⟩
 ·exact ⟨_,_,rfl⟩
 ·exact ⟨_,_,rfl⟩
theorem I32V.at {w : World} {p : Option Addr} {n c : Nat} {l : List Int} (h : I32V w (.slice p n c) l) (j : Nat) (hj : j < l.length) : ∃ b o,p = some ⟨b,o,none⟩ ∧ w.cell? ⟨b,o + j,none⟩ = some (.int .i32 (l.getD j 0)) := by
 rcases h with ⟨rfl,_⟩ | ⟨b,o,c,hv,hc⟩
 ·exact absurd hj (Nat.not_lt_zero _)
 ·injection hv with h1 _ _
  exact ⟨b,o,h1,hc j hj⟩
def prS (n : Nat) (s : Scr) (rows : List (List C)) (l : List Int) (i : Nat) : Scr × List (List C) := Vm n (s,rows) (prL (l.take i))
theorem qxo (n : Nat) (s : Scr) (rows : List (List C)) (l : List Int) (i : Nat) (hi : i < l.length) : prS n s rows l (i + 1) = U0 n (prS n s rows l i).1 (prS n s rows l i).2 (l.getD i 0) := by
 unfold prS;have e : l.take (i + 1) = l.take i ++ [l.getD i 0] := by
  rw [List.take_add_one,qy,List.getElem?_eq_getElem hi]
  rfl
 have e2 : prL (l.take i ++ [l.getD i 0]) = prL (l.take i) ++ [(l.getD i 0,0)] := List.map_append;rw [e,e2,qeg]
 rfl
theorem qow {n hh : Nat} {s : Scr} {rows : List (List C)} (h : PJ n hh s rows) (l : List Int) (v : Value) (B M : Nat) (w : World) (hT : Txt.Tab w) (hB : w.cell? ⟨B, 0, none⟩ = some v) (hl : I32V w v l) (hn : l.length ≤ 1000000) :
  Does 55 #[.pointer (some ⟨B,0,none⟩)] M w s (Vm n (s,rows) (prL l)).1 rows (Vm n (s,rows) (prL l)).2 := by
 intro W p hb hS;obtain ⟨pa,pc,rfl⟩ := hl.slice;have q0 := Qa hb hB;have HL : Hid (∀ X,Below w.heap.size W X → ∀ i,i < l.length → ∃ b o,pa = some ⟨b,o,none⟩ ∧ X.cell? ⟨b,o + i,none⟩ = some (.int .i32 (l.getD i 0))) := fun X hX i hi => (hl.next (hb.trans hX)).at i hi
 have HPR : Hid (∀ i X,i < l.length → Below w.heap.size W X → ShAt 110 X M w.heap.size p (prS n s rows l i).1 (prS n s rows l i).2 → Calls qP 37 #[.pointer (some ⟨p,0,none⟩),.int .i32 (l.getD i 0)] X (Ran X M w.heap.size p (prS n s rows l (i + 1)).1 (prS n s rows l (i + 1)).2)) := fun i X hi hX hSX => by
  rw [qxo n s rows l i hi];exact Fb (h.prns (prL (l.take i))).pi (l.getD i 0) X M w.heap.size p (Grd.Tab.next hT (hb.trans hX)) hT.pos hSX
 have HS : Hid (ShAt 110 W M w.heap.size p (prS n s rows l 0).1 (prS n s rows l 0).2) := hS;have HE : Hid (prS n s rows l l.length = Vm n (s,rows) (prL l)) := by
  unfold Hid prS;rw [List.take_length]
 clear hS hB h hl hT;generalize Vm n (s,rows) (prL l) = fin at *;generalize prS n s rows l = st at *;obtain ⟨K,hK⟩ : ∃ K,l.length = K := ⟨_,rfl⟩;rw [hK] at q0 HL HPR HE hn;clear hK;go_enter Tryz.func55,Tryz.ntmps55;go_wp2_with fail;go_loopg [7] K (fun q v wr => ∃ i : Nat,v = .int .i64 (i : Int) ∧ i ≤ K ∧ K - i ≤ q ∧ ShAt 110 wr M w.heap.size p (st i).1 (st i).2 ∧ Below w.heap.size W wr)
 case atStart => exact ⟨0,rfl,by omega,by omega,HS.out,qr _ _⟩
 case round =>
  obtain ⟨i,rfl,hi,hq,hSi,hBi⟩ := hrel
  by_cases hlt : i < K
  ·have lt1 : (i : Int) < (K : Int) := by omega
   obtain ⟨b,o,rfl,c1⟩ := HL.out wr hBi i hlt;have HP := HPR.out i wr hlt hBi hSi;have HBI : Hid (Below w.heap.size W wr) := hBi;clear hSi hBi;generalize l.getD i 0 = r at *;go_wp2_with fail;refine HP.mono ?_;rintro e V ⟨rfl,hV,bV,-⟩;have HV : Hid _ := hV;have HBV : Hid (Below w.heap.size W V) := HBI.out.trans bV;clear hV bV HP c1;go_wp2_with fail;go_roundg (K - (i + 1))
   case measure => omega
   case rel => exact ⟨i + 1,by go_num,by omega,by omega,HV.out,HBV.out⟩
  ·have lt1 : ¬ (i : Int) < (K : Int) := by omega
   have e : i = K := by omega
   subst e;have HSI : Hid _ := hSi;have HBI : Hid (Below w.heap.size W wr) := hBi;clear hSi hBi;go_wp2_with fail;go_end0;have hs := HSI.out;rw [HE.out] at hs;exact ⟨rfl,hs,HBI.out⟩
theorem qhh (l : List Int) (W : World) (B : Nat) (v : Value) (h1 : W.cell? ⟨B,0,none⟩ = some v) (hl : I32V W v l) (hn : l.length ≤ 1000000) : Jm W 54 #[.pointer (some ⟨B,0,none⟩)] (Z4 l) := by
 refine ⟨qe5,Uk l,fun w0 w s cv tv gv n hh hw hm hR => ?_⟩
 have hz := Yh hR;have hj := PJ.start hR;have he := hj.prns (prL l);have key := qh4 s (Z4 l n hh s) cv tv gv B w0 w hm.m.t hm.m.v hm.m.b hm.m.f;rw [hz] at key;refine key fun X hX => ?_
 refine Jl n hh s (Vm n (s,Qe n s.cs hh) (prL l)).1 (Vm n (s,Qe n s.cs hh) (prL l)).2 cv tv gv _ qdo _ w0 X hm.m.v (hm.m.b.trans (hX.mono hm.m.b.size)) hm.m.f hR.w hR.h hR.gz (fun w1 hw1 => ?_) (F8 hR _ _ he.rl (fun i hi => (he.rr i hi).1) (Nat.le_succ_of_le he.r.gl) (fun i hi => by have := he.r.Ue i hi;exact Nat.le_trans this (by omega))) _ rfl
 have hb := hw.trans ((hX.trans (hw1.mono hX.size)).mono hw.size);exact qow hj l v B _ w1 (Grd.Tab.next (Grd.Tab.next hm.m.t hX) hw1) (Qa hb h1) (hl.next hb) hn
def Yz (W : World) (v : Value) (fs : List Phi) : Prop := (fs = [] ∧ ∃ p c,v = .slice p 0 c) ∨ ∃ b o c,v = .slice (some ⟨b,o,none⟩) fs.length c ∧ ∀ j,j < fs.length → ∃ x,W.cell? ⟨b,o + j,none⟩ = some x ∧ Step W x (fs.getD j phId)
theorem Yz.next {W W' : World} {v : Value} {fs : List Phi} (h : Yz W v fs) (hb : Below W.heap.size W W') : Yz W' v fs := by
 rcases h with h | ⟨b,o,c,hv,hc⟩
 ·exact .inl h
 ·refine .inr ⟨b, o, c, hv, fun j hj => ?_⟩
  obtain ⟨x,h1,h2⟩ := hc j hj;exact ⟨x,Qa hb h1,h2.next hb⟩
theorem Yz.slice {W : World} {v : Value} {fs : List Phi} (h : Yz W v fs) : ∃ p c,v = .slice p fs.length c := by
 rcases h with ⟨rfl,p,c,rfl⟩ | ⟨b,o,c,rfl,-⟩
 ·exact ⟨_,_,rfl⟩
 ·exact ⟨_,_,rfl⟩
theorem Yz.at {W : World} {p : Option Addr} {n c : Nat} {fs : List Phi} (h : Yz W (.slice p n c) fs) (j : Nat) (hj : j < fs.length) : ∃ b o fid caps,p = some ⟨b,o,none⟩ ∧ W.cell? ⟨b,o + j,none⟩ = some (.func (.func fid) #[] caps) ∧ Jm W fid caps (fs.getD j phId) := by
 rcases h with ⟨rfl,_⟩ | ⟨b,o,c,hv,hc⟩
 ·exact absurd hj (Nat.not_lt_zero _)
 ·injection hv with h1 _ _
  obtain ⟨x,h2,fid,caps,rfl,h3⟩ := hc j hj;exact ⟨b,o,fid,caps,h1,h2,h3⟩
theorem qp7 (fs : List Phi) (n hh : Nat) (s : Scr) (k : Nat) (hk : k < fs.length) : Qu (fs.take (k + 1)) n hh s = (fs.getD k phId) n hh (Qu (fs.take k) n hh s) := by
 have e : fs.take (k + 1) = fs.take k ++ [fs.getD k phId] := by
  rw [List.take_add_one,qy,List.getElem?_eq_getElem hk]
  rfl
 rw [e,K9]
 rfl
theorem qq1 : Plain 29 := fun _ _ => by kernel_rfl
section
attribute [local go_sem ↓] Xp Jg
attribute [local go_sem] G7 Xx Xy
theorem qs4 (fs : List Phi) (hk : ∀ f,f ∈ fs → Xf f) (W : World) (B : Nat) (v : Value) (h1 : W.cell? ⟨B,0,none⟩ = some v) (hS : Yz W v fs) (hn : fs.length ≤ 1000000) : Jm W 29 #[.pointer (some ⟨B,0,none⟩)] (Qu fs) := by
 refine ⟨qq1,Jo hk,fun w0 w s cv tv gv n hh hw hm hR => ?_⟩
 obtain ⟨ca,cc,rfl⟩ := hm.m.v.c.shape;obtain ⟨ta,tc,rfl⟩ := hm.m.v.t.slice;obtain ⟨ga,gc,rfl⟩ := hm.m.v.g.slice;obtain ⟨pa,pc,rfl⟩ := hS.slice;have hkb : Below w.heap.size w ((w.alloc (.cells (scS s ca cc ta tc ga gc) 32)).alloc (.cells zA 32)) := (((qr _ _).alloc (by simp) _).alloc (by simp) _)
 have hx0 : ((w.alloc (.cells (scS s ca cc ta tc ga gc) 32)).alloc (.cells zA 32)).heap[w.heap.size]? = _ := (qs _ _ _ (by simp)).trans (qf w (.cells (scS s ca cc ta tc ga gc) 32))
 have hx1 : ((w.alloc (.cells (scS s ca cc ta tc ga gc) 32)).alloc (.cells zA 32)).heap[w.heap.size + 1]? = _ := heap_alloc2_new w (.cells (scS s ca cc ta tc ga gc) 32) (.cells zA 32);have HX0 : Hid _ := hx0;have HXR : Hid _ := hx1;have HKB : Hid _ := hkb;have hM0 := hm.m.b.size;have HN : Hid (∀ w0 V cv tv gv,MetS w0 V s cv tv gv → Calls qP 30 (#[.agg (scrA s cv tv gv)] ++ #[]) V (Made w0 V s 0)) := fun w0 V cv tv gv hm => Yq.runs w0 V s cv tv gv n hh hm hR
 have HC := HN.out w0 _ _ _ _ (hm.next hkb);have HBX : Hid (∀ V,Below w.heap.size w V → V.cell? ⟨B,0,none⟩ = some (.slice pa fs.length pc)) := fun V hV => Qa (hw.trans (hV.mono hw.size)) h1
 have HCALL : Hid (∀ k,k < fs.length → ∀ V cv tv gv,Below w.heap.size w V → Zh V (Qu (fs.take k) n hh s) cv tv gv → ∃ b o fid caps,pa = some ⟨b,o,none⟩ ∧ V.cell? ⟨b,o + k,none⟩ = some (.func (.func fid) #[] caps) ∧ Plain fid ∧ Calls qP fid (#[.agg (scrA (Qu (fs.take k) n hh s) cv tv gv)] ++ caps) V (Made V V (Qu (fs.take (k + 1)) n hh s) 0)) := fun k hlt V cv tv gv hV hv => by
  obtain ⟨b,o,fid,caps,e1,e2,e3⟩ := (hS.next (hw.trans (hV.mono hw.size))).at k hlt;have hr := Jo (fs := fs.take k) (fun f hf => hk f (List.mem_of_mem_take hf)) s n hh hR
  refine ⟨b,o,fid,caps,e1,e2,e3.plain,?_⟩;rw [qp7 fs n hh s k hlt];exact e3.runs V V _ cv tv gv n hh (qr _ _) ⟨⟨Grd.Tab.next hm.m.t hV,hv,qr _ _,hr.fits⟩,(hm.next hV).l⟩ hr
 have HE : Hid (Qu (fs.take fs.length) n hh s = Qu fs n hh s) := by
  unfold Hid;rw [List.take_length]
 have HE0 : Hid (Qu (fs.take 0) n hh s = s) := rfl;obtain ⟨K0,hK⟩ : ∃ K0,fs.length = K0 := ⟨_,rfl⟩;rw [hK] at HBX HCALL HE hn;clear hkb hw hm hx0 hx1 hR h1 hS hK HN;generalize Qu fs n hh s = fin at *;generalize hst : (fun k => Qu (fs.take k) n hh s) = st
 have hst' : ∀ k,Qu (fs.take k) n hh s = st k := fun k => by rw [← hst]
 simp only [hst'] at HCALL HE HE0;clear hst hst' hk;go_enter Tryz.func29,Tryz.ntmps29;go_upto_region 1 with fail
 generalize ((w.alloc (.cells (scS s ca cc ta tc ga gc) 32)).alloc (.cells zA 32)) = V0 at *;go_wp2_with (refine wpList_load_row rfl 32 (.tmp 2) rfl w.heap.size rfl _ _ _ _ HX0.out qu rfl (by kernel_rfl) ?_)
 refine HC.mono ?_;rintro e V ⟨cv',tv',gv',rfl,hO,c2⟩;obtain ⟨a1,n1,c1,a2,n2,c2',a3,n3,c3,rfl,rfl,rfl⟩ := hO.shapes;have HO : Hid (Qo V 0 _ s _ _ _) := hO;have HX : Hid (V.heap[w.heap.size]? = _) := Grd.carry HX0.out c2;have HR : Hid (V.heap[w.heap.size + 1]? = _) := Grd.carry HXR.out c2;have HB : Hid (Below w.heap.size w V) := HKB.out.trans (c2.mono HKB.out.size);have hle := HKB.out.size;clear hO c2 HC HX0 HXR HKB;go_wp2_with (refine wpList_store_row rfl 32 (.tmp 2) (.tmp 10) rfl w.heap.size (scT s a1 n1 c1 a2 n2 c2' a3 n3 c3) rfl rfl _ _ HX.out (by kernel_rfl) rfl (Qm _ _ _ _ _ _ _ _ _ _) ?_)
 go_loopg [5,6] K0 (fun q e i wr => ∃ (k : Nat) (a1 : Option Addr) (n1 c1 : Nat) (a2 : Option Addr) (n2 c2 : Nat) (a3 : Option Addr) (n3 c3 : Nat),i = .int .i64 (k : Int) ∧ k ≤ K0 ∧ K0 - k ≤ q ∧ e = .int .i64 0 ∧ Below w.heap.size w wr ∧ wr.heap[w.heap.size]? = some (.cells (scrA (st k) (.slice a1 n1 c1) (.slice a2 n2 c2) (.slice a3 n3 c3)) 32 (0,0)) ∧ Qo wr 0 w.heap.size (st k) (.slice a1 n1 c1) (.slice a2 n2 c2) (.slice a3 n3 c3) ∧ wr.heap[w.heap.size + 1]? = some (.cells zA 32 (0,0)))
 case atStart =>
  refine ⟨0,a1,n1,c1,a2,n2,c2',a3,n3,c3,rfl,by omega,by omega,rfl,qi HB.out (qd _) _,?_,?_,(qg _ _ _ _ (by omega)).trans HR.out⟩
  ·rw [HE0.out]
   exact qj _ _ _ _ _ _ HX.out
  ·rw [HE0.out]
   exact (Qo.off HO.out HX.out Ql (Nat.zero_le _) fun k hk => qg _ _ _ _ hk).mono hle
 case round =>
  obtain ⟨k,b1,m1,d1,b2,m2,d2,b3,m3,d3,rfl,hk,hq,rfl,hb,hy0,hOk,hy1⟩ := hrel;clear HO HX HR HB HE0 hle
  by_cases hlt : k < K0
  ·have lt1 : (k : Int) < (K0 : Int) := by omega
   have HY0 : Hid (wr.drew.heap[w.heap.size]? = _) := hy0;have HY1 : Hid (wr.drew.heap[w.heap.size + 1]? = _) := hy1;have HBZ : Hid (Below w.heap.size w wr.drew) := hb.drew;obtain ⟨b,o,fid,caps,rfl,f1,hpl,HC⟩ := HCALL.out k hlt wr.drew _ _ _ HBZ.out (hOk.scr.next (qr _ _).drew);unfold Plain at hpl;have f0 := HBX.out wr hb;have f0' : wr.drew.cell? ⟨B,0,none⟩ = some (.slice (some ⟨b,o,none⟩) K0 pc) := f0;have sp := Qs HY0.out;obtain ⟨sp1,sp2⟩ := sp;clear hb hy0 hy1 hOk;go_upto_region 5 with fail
   refine wp_region_held_drew (S := fun _ => True) (by kernel_rfl) trivial (fun hHeld => ?_)
   generalize wr.drew = Z0 at *;clear f0;refine wpAnyH_take (i := 1) (oi := _) (v := ?_) rfl (by kernel_rfl) (by kernel_rfl) (by kernel_rfl) (fun _ _ _ h => h) (Or.inl ⟨by rfl,?_⟩) hHeld ?_
   rotate_left
   ·intro w hSw
    go_simp
    (try with_reducible rfl)
   (try simp only [qx,qa,qb,qc])
   refine qm (rs := [0,4]) (by kernel_rfl) (by simp) ?_
   refine AllReadyH.cons (o := _) rfl (fun K hK => ?_) <| AllReadyH.cons (o := _) rfl (fun K hK => ?_) <| qt
   ·go_simp
    refine hK.out _ _ trivial (fun hHeld => ?_)
    clear hK K
    (try simp only [qx,qa,qb,qc])
    refine wpAnyH_take (i := 2) (oi := _) (v := ?_) rfl (by kernel_rfl) (by kernel_rfl) (by kernel_rfl) (fun _ _ _ h => h) (Or.inl ⟨by rfl,?_⟩) hHeld ?_
    rotate_left
    ·intro w hSw
     go_simp
     (try with_reducible rfl)
    (try simp only [qx,qa,qb,qc])
    refine qm (rs := [3,4]) (by kernel_rfl) (by simp) ?_
    refine AllReadyH.cons (o := _) rfl (fun K hK => ?_) <| AllReadyH.cons (o := _) rfl (fun K hK => ?_) <| qt
    ·go_simp
     refine hK.out _ _ trivial (fun hHeld => ?_)
     clear hK K
     (try simp only [qx,qa,qb,qc])
     refine qm (rs := [4]) (by kernel_rfl) (by simp) ?_
     refine AllReadyH.cons (o := _) rfl (fun K hK => ?_) <| qt
     rw [if_pos (by rfl)]
     refine wp_load_row 32 (.tmp 2) rfl w.heap.size rfl _ _ _ _ HY0.out qu rfl (by kernel_rfl) ?_
     refine hK.out _ _ trivial (fun hHeld => ?_)
     clear hK K
     (try simp only [qx,qa,qb,qc])
     refine qm (rs := [5]) (by kernel_rfl) (by simp) ?_
     refine AllReadyH.cons (o := _) rfl (fun K hK => ?_) <| qt
     go_simp;refine HC.mono ?_;rintro e V ⟨cv',tv',gv',rfl,hO,c2⟩;obtain ⟨a1,n1,c1,a2,n2,c2',a3,n3,c3,rfl,rfl,rfl⟩ := hO.shapes;have HO : Hid (Qo V 0 _ _ _ _ _) := hO;have HY : Hid (V.heap[w.heap.size]? = _) := Grd.carry HY0.out c2;have HYR : Hid (V.heap[w.heap.size + 1]? = _) := Grd.carry HY1.out c2;have HBV : Hid (Below w.heap.size w V) := HBZ.out.trans (c2.mono HBZ.out.size);have sp0 := Zb HY.out rfl;clear hO c2 HC;go_wp2_with fail;refine hK.out _ _ trivial (fun hHeld => ?_)
     clear hK K
     (try simp only [qx,qa,qb,qc])
     refine wpAnyH_take (i := 6) (oi := _) (v := ?_) rfl (by kernel_rfl) (by kernel_rfl) (by kernel_rfl) (fun _ _ _ h => h) (Or.inl ⟨by rfl,?_⟩) hHeld ?_
     rotate_left
     ·intro w hSw
      go_simp
      (try with_reducible rfl)
     (try simp only [qx,qa,qb,qc])
     refine wpAnyH_take (i := 7) (oi := _) (v := ?_) rfl (by kernel_rfl) (by kernel_rfl) (by kernel_rfl) (fun _ _ _ h => h) (Or.inl ⟨by rfl,?_⟩) hHeld ?_
     rotate_left
     ·intro w hSw
      go_simp
      (try with_reducible rfl)
     (try simp only [qx,qa,qb,qc])
     refine wpAnyH_take (i := 8) (oi := _) (v := ?_) rfl (by kernel_rfl) (by kernel_rfl) (by kernel_rfl) (fun _ _ _ h => h) (Or.inl ⟨by rfl,?_⟩) hHeld ?_
     rotate_left
     ·intro w hSw
      go_simp
      (try with_reducible rfl)
     (try simp only [qx,qa,qb,qc])
     refine qm (rs := [9]) (by kernel_rfl) (by simp) ?_
     refine AllReadyH.cons (o := _) rfl (fun K hK => ?_) <| qt
     rw [if_pos (by rfl)]
     refine wp_store_row 32 (.tmp 2) (.tmp 29) rfl w.heap.size (scrA (st (k + 1)) (.slice a1 n1 c1) (.slice a2 n2 c2') (.slice a3 n3 c3)) rfl rfl _ _ HY.out (by kernel_rfl) rfl (Qm _ _ _ _ _ _ _ _ _ _) ?_
     refine hK.out _ _ trivial (fun hHeld => ?_)
     clear hK K
     (try simp only [qx,qa,qb,qc])
     refine wpAnyH_take (i := 10) (oi := _) (v := ?_) rfl (by kernel_rfl) (by kernel_rfl) (by kernel_rfl) (fun _ _ _ h => h) (Or.inl ⟨by rfl,?_⟩) hHeld ?_
     rotate_left
     ·intro w hSw
      go_simp
      (try with_reducible rfl)
     (try simp only [qx,qa,qb,qc])
     refine wpAnyH_done (by kernel_rfl) ?_ _
     go_wp2_with fail;go_roundg (K0 - (k + 1))
     case measure => omega
     case rel => exact ⟨k + 1,_,_,_,_,_,_,_,_,_,by go_num,by omega,by omega,rfl,qi HBV.out (qd _) _,qj _ _ _ _ _ _ HY.out,(Qo.off HO.out HY.out Ql (Nat.zero_le _) fun k hk => qg _ _ _ _ hk).mono HBZ.out.size,(qg _ _ _ _ (by omega)).trans HYR.out⟩
    ·rw [if_pos (by rfl)]
     refine wp_load_row 32 (.tmp 2) rfl w.heap.size rfl _ _ _ _ HY0.out qu rfl (by kernel_rfl) ?_
     refine hK.out _ _ trivial (fun hHeld => ?_)
     clear hK K
     (try simp only [qx,qa,qb,qc])
     refine qm (rs := [3]) (by kernel_rfl) (by simp) ?_
     refine AllReadyH.cons (o := _) rfl (fun K hK => ?_) <| qt
     go_simp;refine hK.out _ _ trivial (fun hHeld => ?_)
     clear hK K
     (try simp only [qx,qa,qb,qc])
     refine qm (rs := [5]) (by kernel_rfl) (by simp) ?_
     refine AllReadyH.cons (o := _) rfl (fun K hK => ?_) <| qt
     go_simp;refine HC.mono ?_;rintro e V ⟨cv',tv',gv',rfl,hO,c2⟩;obtain ⟨a1,n1,c1,a2,n2,c2',a3,n3,c3,rfl,rfl,rfl⟩ := hO.shapes;have HO : Hid (Qo V 0 _ _ _ _ _) := hO;have HY : Hid (V.heap[w.heap.size]? = _) := Grd.carry HY0.out c2;have HYR : Hid (V.heap[w.heap.size + 1]? = _) := Grd.carry HY1.out c2;have HBV : Hid (Below w.heap.size w V) := HBZ.out.trans (c2.mono HBZ.out.size);have sp0 := Zb HY.out rfl;clear hO c2 HC;go_wp2_with fail;refine hK.out _ _ trivial (fun hHeld => ?_)
     clear hK K
     (try simp only [qx,qa,qb,qc])
     refine wpAnyH_take (i := 6) (oi := _) (v := ?_) rfl (by kernel_rfl) (by kernel_rfl) (by kernel_rfl) (fun _ _ _ h => h) (Or.inl ⟨by rfl,?_⟩) hHeld ?_
     rotate_left
     ·intro w hSw
      go_simp
      (try with_reducible rfl)
     (try simp only [qx,qa,qb,qc])
     refine wpAnyH_take (i := 7) (oi := _) (v := ?_) rfl (by kernel_rfl) (by kernel_rfl) (by kernel_rfl) (fun _ _ _ h => h) (Or.inl ⟨by rfl,?_⟩) hHeld ?_
     rotate_left
     ·intro w hSw
      go_simp
      (try with_reducible rfl)
     (try simp only [qx,qa,qb,qc])
     refine wpAnyH_take (i := 8) (oi := _) (v := ?_) rfl (by kernel_rfl) (by kernel_rfl) (by kernel_rfl) (fun _ _ _ h => h) (Or.inl ⟨by rfl,?_⟩) hHeld ?_
     rotate_left
     ·intro w hSw
      go_simp
      (try with_reducible rfl)
     (try simp only [qx,qa,qb,qc])
     refine qm (rs := [9]) (by kernel_rfl) (by simp) ?_
     refine AllReadyH.cons (o := _) rfl (fun K hK => ?_) <| qt
     rw [if_pos (by rfl)]
     refine wp_store_row 32 (.tmp 2) (.tmp 29) rfl w.heap.size (scrA (st (k + 1)) (.slice a1 n1 c1) (.slice a2 n2 c2') (.slice a3 n3 c3)) rfl rfl _ _ HY.out (by kernel_rfl) rfl (Qm _ _ _ _ _ _ _ _ _ _) ?_
     refine hK.out _ _ trivial (fun hHeld => ?_)
     clear hK K
     (try simp only [qx,qa,qb,qc])
     refine wpAnyH_take (i := 10) (oi := _) (v := ?_) rfl (by kernel_rfl) (by kernel_rfl) (by kernel_rfl) (fun _ _ _ h => h) (Or.inl ⟨by rfl,?_⟩) hHeld ?_
     rotate_left
     ·intro w hSw
      go_simp
      (try with_reducible rfl)
     (try simp only [qx,qa,qb,qc])
     refine wpAnyH_done (by kernel_rfl) ?_ _
     go_wp2_with fail;go_roundg (K0 - (k + 1))
     case measure => omega
     case rel => exact ⟨k + 1,_,_,_,_,_,_,_,_,_,by go_num,by omega,by omega,rfl,qi HBV.out (qd _) _,qj _ _ _ _ _ _ HY.out,(Qo.off HO.out HY.out Ql (Nat.zero_le _) fun k hk => qg _ _ _ _ hk).mono HBZ.out.size,(qg _ _ _ _ (by omega)).trans HYR.out⟩
   ·rw [if_pos (by rfl)]
    refine wp_load_row 32 (.tmp 2) rfl w.heap.size rfl _ _ _ _ HY0.out qu rfl (by kernel_rfl) ?_
    refine hK.out _ _ trivial (fun hHeld => ?_)
    clear hK K
    (try simp only [qx,qa,qb,qc])
    refine qm (rs := [0]) (by kernel_rfl) (by simp) ?_
    refine AllReadyH.cons (o := _) rfl (fun K hK => ?_) <| qt
    go_simp;refine hK.out _ _ trivial (fun hHeld => ?_)
    clear hK K
    (try simp only [qx,qa,qb,qc])
    refine wpAnyH_take (i := 2) (oi := _) (v := ?_) rfl (by kernel_rfl) (by kernel_rfl) (by kernel_rfl) (fun _ _ _ h => h) (Or.inl ⟨by rfl,?_⟩) hHeld ?_
    rotate_left
    ·intro w hSw
     go_simp
     (try with_reducible rfl)
    (try simp only [qx,qa,qb,qc])
    refine qm (rs := [3]) (by kernel_rfl) (by simp) ?_
    refine AllReadyH.cons (o := _) rfl (fun K hK => ?_) <| qt
    go_simp;refine hK.out _ _ trivial (fun hHeld => ?_)
    clear hK K
    (try simp only [qx,qa,qb,qc])
    refine qm (rs := [5]) (by kernel_rfl) (by simp) ?_
    refine AllReadyH.cons (o := _) rfl (fun K hK => ?_) <| qt
    go_simp;refine HC.mono ?_;rintro e V ⟨cv',tv',gv',rfl,hO,c2⟩;obtain ⟨a1,n1,c1,a2,n2,c2',a3,n3,c3,rfl,rfl,rfl⟩ := hO.shapes;have HO : Hid (Qo V 0 _ _ _ _ _) := hO;have HY : Hid (V.heap[w.heap.size]? = _) := Grd.carry HY0.out c2;have HYR : Hid (V.heap[w.heap.size + 1]? = _) := Grd.carry HY1.out c2;have HBV : Hid (Below w.heap.size w V) := HBZ.out.trans (c2.mono HBZ.out.size);have sp0 := Zb HY.out rfl;clear hO c2 HC;go_wp2_with fail;refine hK.out _ _ trivial (fun hHeld => ?_)
    clear hK K
    (try simp only [qx,qa,qb,qc])
    refine wpAnyH_take (i := 6) (oi := _) (v := ?_) rfl (by kernel_rfl) (by kernel_rfl) (by kernel_rfl) (fun _ _ _ h => h) (Or.inl ⟨by rfl,?_⟩) hHeld ?_
    rotate_left
    ·intro w hSw
     go_simp
     (try with_reducible rfl)
    (try simp only [qx,qa,qb,qc])
    refine wpAnyH_take (i := 7) (oi := _) (v := ?_) rfl (by kernel_rfl) (by kernel_rfl) (by kernel_rfl) (fun _ _ _ h => h) (Or.inl ⟨by rfl,?_⟩) hHeld ?_
    rotate_left
    ·intro w hSw
     go_simp
     (try with_reducible rfl)
    (try simp only [qx,qa,qb,qc])
    refine wpAnyH_take (i := 8) (oi := _) (v := ?_) rfl (by kernel_rfl) (by kernel_rfl) (by kernel_rfl) (fun _ _ _ h => h) (Or.inl ⟨by rfl,?_⟩) hHeld ?_
    rotate_left
    ·intro w hSw
     go_simp
     (try with_reducible rfl)
    (try simp only [qx,qa,qb,qc])
    refine qm (rs := [9]) (by kernel_rfl) (by simp) ?_
    refine AllReadyH.cons (o := _) rfl (fun K hK => ?_) <| qt
    rw [if_pos (by rfl)]
    refine wp_store_row 32 (.tmp 2) (.tmp 29) rfl w.heap.size (scrA (st (k + 1)) (.slice a1 n1 c1) (.slice a2 n2 c2') (.slice a3 n3 c3)) rfl rfl _ _ HY.out (by kernel_rfl) rfl (Qm _ _ _ _ _ _ _ _ _ _) ?_
    refine hK.out _ _ trivial (fun hHeld => ?_)
    clear hK K
    (try simp only [qx,qa,qb,qc])
    refine wpAnyH_take (i := 10) (oi := _) (v := ?_) rfl (by kernel_rfl) (by kernel_rfl) (by kernel_rfl) (fun _ _ _ h => h) (Or.inl ⟨by rfl,?_⟩) hHeld ?_
    rotate_left
    ·intro w hSw
     go_simp
     (try with_reducible rfl)
    (try simp only [qx,qa,qb,qc])
    refine wpAnyH_done (by kernel_rfl) ?_ _
    go_wp2_with fail;go_roundg (K0 - (k + 1))
    case measure => omega
    case rel => exact ⟨k + 1,_,_,_,_,_,_,_,_,_,by go_num,by omega,by omega,rfl,qi HBV.out (qd _) _,qj _ _ _ _ _ _ HY.out,(Qo.off HO.out HY.out Ql (Nat.zero_le _) fun k hk => qg _ _ _ _ hk).mono HBZ.out.size,(qg _ _ _ _ (by omega)).trans HYR.out⟩
  ·have lt1 : ¬ (k : Int) < (K0 : Int) := by omega
   have e : k = K0 := by omega
   subst e;have HY0 : Hid (wr.heap[w.heap.size]? = _) := hy0;have HY1 : Hid (wr.heap[w.heap.size + 1]? = _) := hy1;have HBZ : Hid (Below w.heap.size w wr) := hb;have f0 := HBX.out wr hb;have HOK : Hid (Qo wr 0 w.heap.size (st k) _ _ _) := hOk;rw [HE.out] at HY0 HOK;clear hb hy0 hy1 hOk;go_wp2_with (first | (refine wpList_load_row rfl 32 (.tmp 2) rfl w.heap.size rfl _ _ _ _ HY0.out qu rfl (by kernel_rfl) ?_) | (refine wpList_store_row rfl 32 (.tmp 3) (.tmp 31) rfl (w.heap.size + 1) (scT fin b1 m1 d1 b2 m2 d2 b3 m3 d3) rfl rfl _ _ HY1.out (by kernel_rfl) rfl (Qm _ _ _ _ _ _ _ _ _ _) ?_))
   (try simp only [Exit.inBlock,Exit.then])
   refine bodyPost_ret (v := .tuple #[.agg (scT fin b1 m1 d1 b2 m2 d2 b3 m3 d3),.int .i64 0]) ?_ rfl ⟨_,_,_,rfl,?_,qi HBZ.out (by omega) _⟩
   ·exact Grd.Qd rfl _ _ (w.heap.size + 1) _ _ _ _ rfl (qj _ _ _ _ _ _ HY1.out) qu rfl (by kernel_rfl) _ rfl
   ·exact Qo.off HOK.out HY1.out Ql (Nat.zero_le _) fun k hk => qg _ _ _ _ hk
end
def Xg (w w' W : World) : Prop := w'.heap.size ≤ W.heap.size ∧ ∀ k,w.heap.size ≤ k → k < w'.heap.size → W.heap[k]? = w'.heap[k]?
theorem Xg.refl (w w' : World) : Xg w w' w' := ⟨qd _,fun _ _ _ => rfl⟩
theorem Xg.inner {w w1 w2 w3 W : World} (h : Xg w w3 W) (h1 : w.heap.size ≤ w1.heap.size) (h2 : Below w2.heap.size w2 w3) : Xg w1 w2 W :=
 ⟨Nat.le_trans h2.size h.1,fun k hk hl => (h.2 k (Nat.le_trans h1 hk) (Nat.lt_of_lt_of_le hl h2.size)).trans (h2.block k hl)⟩
theorem Xg.blk {w w' W : World} (h : Xg w w' W) {B : Nat} {o : Obj} (hB : w.heap.size ≤ B) (ho : w'.heap[B]? = some o) : W.heap[B]? = some o := by
 rw [h.2 B hB (Array.getElem?_eq_some_iff.1 ho).1];exact ho
theorem Xg.on {w w' W W' : World} (h : Xg w w' W) (hb : Below W.heap.size W W') : Xg w w' W' :=
 ⟨Nat.le_trans h.1 hb.size,fun k hk hl => (hb.block k (Nat.lt_of_lt_of_le hl h.1)).trans (h.2 k hk hl)⟩
def Zn (E : World → Prop) (w : World) (f : Phi) (e : Ending) (w' : World) : Prop := ∃ fid caps,e = .returned (.func (.func fid) #[] caps) ∧ Xf f ∧ (∀ W,Xg w w' W → E W → Jm W fid caps f) ∧ Below w.heap.size w w'
def Any1 : World → Prop := fun _ => True
theorem Zn.weak {E E' : World → Prop} {w : World} {f : Phi} {e : Ending} {w' : World} (h : Zn E w f e w') (hE : ∀ W,E' W → E W) : Zn E' w f e w' := by
 obtain ⟨fid,caps,h1,hk,h2,h3⟩ := h;exact ⟨fid,caps,h1,hk,fun W hf he => h2 W hf (hE W he),h3⟩
theorem Ct.makes {fid : FuncId} {f : Phi} (h : Ct fid #[] f) (E : World → Prop) {w w' : World} (hb : Below w.heap.size w w') : Zn E w f (.returned (.func (.func fid) #[] #[])) w' := ⟨fid,#[],rfl,h.keeps,fun W _ _ => ⟨h.plain,h.keeps,fun w0 w s cv tv gv n hh _ hm hR => h.runs w0 w s cv tv gv n hh hm hR⟩,hb⟩
theorem Ct.q05 {fid : FuncId} {f : Phi} (h : Ct fid #[] f) (W : World) : Jm W fid #[] f := ⟨h.plain,h.keeps,fun w0 w s cv tv gv n hh _ hm hR => h.runs w0 w s cv tv gv n hh hm hR⟩
theorem by_m (fid : FuncId) (k : Int) (f : Phi) (h : Ct fid #[.int .i64 k] f) (E : World → Prop) (w : World) : Calls qP 88 #[.func (.func fid) #[] #[],.int .i64 k] w (Zn E w f) := by
 have hkb : Below w.heap.size w ((w.alloc (.cells #[.func (.func fid) #[] #[]] 124)).alloc (.cells #[.int .i64 k] 3)) := (((qr _ _).alloc (by simp) _).alloc (by simp) _)
 have hx0 : ((w.alloc (.cells #[.func (.func fid) #[] #[]] 124)).alloc (.cells #[.int .i64 k] 3)).heap[w.heap.size]? = _ := (qs _ _ _ (by simp)).trans (qf w (.cells #[.func (.func fid) #[] #[]] 124))
 have hx1 := heap_alloc2_new w (.cells #[.func (.func fid) #[] #[]] 124) (.cells #[.int .i64 k] 3);have HS : Hid (∀ W,Xg w ((w.alloc (.cells #[.func (.func fid) #[] #[]] 124)).alloc (.cells #[.int .i64 k] 3)) W → E W → Jm W _ _ f) := fun W hf _ => qv8 fid k f h W w.heap.size (w.heap.size + 1) (Zm (hf.blk (qd _) hx0)) (Zm (hf.blk (Nat.le_succ _) hx1))
 have HKB : Hid _ := hkb;have HK : Hid _ := h.keeps;clear hkb hx0 hx1 h;go_enter Tryz.func88,Tryz.ntmps88;go_wp2_with fail;go_ret;exact ⟨_,_,rfl,HK.out,HS.out,HKB.out⟩
theorem qf5 (l : List Int) (p : Option Addr) (c : Nat) (w : World) (hn : l.length ≤ 1000000) : Calls qP 32 #[.slice p l.length c] w (Zn (fun W => I32V W (.slice p l.length c) l) w (Z4 l)) := by
 have hkb : Below w.heap.size w (w.alloc (.cells #[.slice p l.length c] 76)) := (qr _ _).alloc (by simp) _
 have hx0 := qf w (.cells #[.slice p l.length c] 76);have HS : Hid (∀ W,Xg w (w.alloc (.cells #[.slice p l.length c] 76)) W → I32V W (.slice p l.length c) l → Jm W _ _ (Z4 l)) := fun W hf hE => qhh l W w.heap.size _ (Zm (hf.blk (qd _) hx0)) hE hn
 have HKB : Hid _ := hkb;clear hkb hx0;go_enter Tryz.func32,Tryz.ntmps32;go_wp2_with fail;go_ret;exact ⟨_,_,rfl,Uk l,HS.out,HKB.out⟩
theorem qlq (fs : List Phi) (hk : ∀ f,f ∈ fs → Xf f) (p : Option Addr) (c : Nat) (w : World) (hn : fs.length ≤ 1000000) : Calls qP 10 #[.slice p fs.length c] w (Zn (fun W => Yz W (.slice p fs.length c) fs) w (Qu fs)) := by
 have hkb : Below w.heap.size w (w.alloc (.cells #[.slice p fs.length c] 51)) := (qr _ _).alloc (by simp) _
 have hx0 := qf w (.cells #[.slice p fs.length c] 51);have HS : Hid (∀ W,Xg w (w.alloc (.cells #[.slice p fs.length c] 51)) W → Yz W (.slice p fs.length c) fs → Jm W _ _ (Qu fs)) := fun W hf hE => qs4 fs hk W w.heap.size _ (Zm (hf.blk (qd _) hx0)) hE hn
 have HKB : Hid _ := hkb;have HK : Hid _ := Jo hk;clear hkb hx0;go_enter Tryz.func10,Tryz.ntmps10;go_wp2_with fail;go_ret;exact ⟨_,_,rfl,HK.out,HS.out,HKB.out⟩
theorem qq8 {W : World} {b c : Nat} {x y : Value} {t : TypeId} {f g : Phi} (h : W.heap[b]? = some (.cells #[x,y] t (0,0))) (hx : Step W x f) (hy : Step W y g) : Yz W (.slice (some ⟨b,0,none⟩) 2 c) [f,g] := by
 refine .inr ⟨b,0,c,rfl,fun j hj => ?_⟩
 have h2 : j < 2 := hj;have hc := Prs.cells_of_block (W := W) (g := b) (L := [x,y]) (t := t) h
 match j,h2 with
 | 0,_ => exact ⟨x,hc 0 x rfl,hx⟩
 | 1,_ => exact ⟨y,hc 1 y rfl,hy⟩
theorem qrv {f g : Phi} {E : World → Prop} (hkf : Xf f) (gid : FuncId) (hg : Ct gid #[] g) (fid : FuncId) (caps : Array Value) (w w1 w2 : World) (h1 : ∀ W,Xg w w1 W → E W → Jm W fid caps f) (hb1 : Below w.heap.size w w1) (hw2 : w2 = w1.alloc (.cells #[.func (.func fid) #[] caps,.func (.func gid) #[] #[]] 49)) : Calls qP 10 #[.slice (some ⟨w1.heap.size,0,none⟩) 2 2] w2 (Zn E w (Qu [f,g])) := by
 have hb2 : Below w1.heap.size w1 w2 := by
  rw [hw2];exact (qr _ _).alloc (qd _) _
 have hx : w2.heap[w1.heap.size]? = some (.cells #[.func (.func fid) #[] caps,.func (.func gid) #[] #[]] 49 (0,0)) := by
  rw [hw2];exact qf _ _
 refine (qlq [f, g] (fun z hz => by
  rcases List.mem_cons.1 hz with rfl | hz
  ·exact hkf
  ·rw [List.mem_singleton.1 hz]
   exact hg.keeps) (some ⟨w1.heap.size,0,none⟩) 2 w2 (by show 2 ≤ 1000000;omega)).mono ?_
 rintro e w3 ⟨fid3,caps3,rfl,hk,h3,hb3⟩;refine ⟨fid3,caps3,rfl,hk,fun W hf hE => ?_,hb1.trans ((hb2.trans (hb3.mono hb2.size)).mono hb1.size)⟩
 refine h3 W (hf.inner (Nat.le_trans hb1.size hb2.size) (qr _ _)) (qq8 (hf.blk hb1.size (Grd.carry hx hb3)) ⟨_,_,rfl,h1 W (hf.inner (qd _) (hb2.trans (hb3.mono hb2.size))) hE⟩ ⟨_,_,rfl,hg.q05 W⟩)
theorem Um (r : Int) (w : World) : Calls qP 56 #[.int .i32 r] w (Zn Any1 w (Yr r)) := by
 by_cases h8 : r = 8
 ·subst h8
  have HB := by_m 87 1 (qkw 1) (qp6 1) Any1 w;go_enter Tryz.func56,Tryz.ntmps56;go_wp2_with fail;refine HB.mono ?_;rintro e W ⟨fid,caps,rfl,hF⟩;have HF : Hid _ := hF;clear hF HB;go_wp2_with fail;go_ret;exact ⟨_,_,rfl,HF.out⟩
 by_cases h9 : r = 9
 ·subst h9
  have HB := by_m 89 1 (qr0 1) (qwk 1) Any1 w;go_enter Tryz.func56,Tryz.ntmps56;go_wp2_with fail;refine HB.mono ?_;rintro e W ⟨fid,caps,rfl,hF⟩;have HF : Hid _ := hF;clear hF HB;go_wp2_with fail;go_ret;exact ⟨_,_,rfl,HF.out⟩
 by_cases h10 : r = 10 ∨ r = 11 ∨ r = 12
 ·have e : Yr r = qdv := by
   unfold Yr;rw [if_neg h8,if_neg h9,if_pos h10]
  rw [e];clear e
  rcases h10 with rfl | rfl | rfl
  all_goals
   go_enter Tryz.func56,Tryz.ntmps56;go_wp2_with fail;go_ret;exact qdy.makes _ (qr _ _)
 by_cases h13 : r = 13
 ·subst h13
  go_enter Tryz.func56,Tryz.ntmps56;go_wp2_with fail;go_ret;exact Vv.makes _ (qr _ _)
 ·have e : Yr r = phId := by
   unfold Yr;rw [if_neg h8,if_neg h9,if_neg h10,if_neg h13]
  rw [e];clear e;have g10 : r ≠ 10 := fun e => h10 (.inl e)
  have g11 : r ≠ 11 := fun e => h10 (.inr (.inl e))
  have g12 : r ≠ 12 := fun e => h10 (.inr (.inr e))
  clear h10;go_enter Tryz.func56,Tryz.ntmps56;go_wp2_with fail;go_ret;exact Yq.makes _ (qr _ _)
theorem qrh (r : Int) (w : World) : Calls qP 57 #[.int .u8 r] w (Zn Any1 w (Gt r)) := by
 by_cases h55 : r = 55
 ·subst h55
  go_enter Tryz.func57,Tryz.ntmps57;go_wp2_with fail;go_ret;exact qkz.makes _ (qr _ _)
 by_cases h56 : r = 56
 ·subst h56
  go_enter Tryz.func57,Tryz.ntmps57;go_wp2_with fail;go_ret;exact qj3.makes _ (qr _ _)
 by_cases h68 : r = 68
 ·subst h68
  go_enter Tryz.func57,Tryz.ntmps57;go_wp2_with fail;go_ret;exact qdy.makes _ (qr _ _)
 by_cases h69 : r = 69
 ·subst h69
  have HA := qrv (f := Km) (g := qdv) (E := Any1) Vv.keeps 90 qdy 91 #[] w w _ (fun W _ _ => Vv.q05 W) (qr _ _) rfl
  go_enter Tryz.func57,Tryz.ntmps57;go_wp2_with fail;refine HA.mono ?_;rintro e W ⟨fid,caps,rfl,hF⟩;have HF : Hid _ := hF;clear hF HA;go_wp2_with fail;go_ret;exact ⟨_,_,rfl,HF.out⟩
 by_cases h72 : r = 72
 ·subst h72
  go_enter Tryz.func57,Tryz.ntmps57;go_wp2_with fail;go_ret;exact qm4.makes _ (qr _ _)
 by_cases h77 : r = 77
 ·subst h77
  go_enter Tryz.func57,Tryz.ntmps57;go_wp2_with fail;go_ret;exact qwg.makes _ (qr _ _)
 by_cases h99 : r = 99
 ·subst h99
  go_enter Tryz.func57,Tryz.ntmps57;go_wp2_with fail;go_ret;exact qr5.makes _ (qr _ _)
 ·have e : Gt r = phId := by
   unfold Gt;rw [if_neg h55,if_neg h56,if_neg h68,if_neg h69,if_neg h72,if_neg h77,if_neg h99]
  rw [e];clear e;go_enter Tryz.func57,Tryz.ntmps57;go_wp2_with fail;go_ret;exact Yq.makes _ (qr _ _)
theorem qqo (t : ByteArray) (ht : t.size ≤ 1048576) (w : World) : Calls qP 59 #[.string t] w (Zn Any1 w (Y8 t)) := by
 have HC := qzd t ht w;have hts := qxv t;have HN : Hid (∀ W,(((cutN t).toList ≠ [48] ∧ (cutN t).toList ≠ [50]) ∨ (cutT t).toList = []) → Below w.heap.size w W → Zn Any1 w (Y8 t) (.returned (.func (.func 30) #[] #[])) W) := fun W hc hb => by
  unfold Y8;rw [if_pos hc];exact Yq.makes _ hb
 have HY : Hid (∀ W,¬ (((cutN t).toList ≠ [48] ∧ (cutN t).toList ≠ [50]) ∨ (cutT t).toList = []) → Below w.heap.size w W → Zn Any1 w (Y8 t) (.returned (.func (.func 103) #[] #[.pointer (some ⟨W.heap.size,0,none⟩)])) (W.alloc (.cells #[.string (cutT t)] 9))) := fun W hc hb => by
  unfold Y8;rw [if_neg hc];exact ⟨_,_,rfl,(qor (cutT t) (by omega)).keeps,fun X hf _ => qjt (cutT t) (by omega) X W.heap.size (Zm (hf.blk hb.size (qf W (.cells #[.string (cutT t)] 9)))),hb.alloc hb.size _⟩
 clear hts;generalize cutN t = nn at *;generalize cutT t = tt at *;generalize Y8 t = ph at *;go_enter Tryz.func59,Tryz.ntmps59;go_wp2_with fail;refine HC.mono ?_;rintro e W ⟨f,rfl,hb⟩;have HB : Hid (Below w.heap.size w W) := hb;clear HC hb;go_wp2_with fail
 all_goals go_ret
 all_goals (first | refine HN.out _ ?_ (HB.out.alloc HB.out.size _) | refine HY.out W ?_ HB.out)
 all_goals simp_all
end Put
theorem Qq {P : Program} {md : Region.Mode} {l : List Oper} {Q : Exit → Act → World → Prop} {S : World → Prop} {i : Nat} {oi : Oper} {rest : List Oper} {v : Value} {fuel : Nat} {listed : Array Bool} {a : Act} {w : World} (hi : l.drop i = oi :: rest)
  (hs : Region.noSelect l.toArray = true) (hf : Region.free md l.toArray listed i = true) (hr : (Region.ready md l.toArray listed).contains i = true)
  (hQ : ∀ c a w,Q (.panic c) (a.put oi.dst v) w → Q (.panic c) a w) (hy : YieldsIf P l.toArray S oi v a) (hS : S w)
  (h : wpAnyH P md l.toArray Q S fuel (listed.setIfInBounds i true) (a.put oi.dst v) w) : wpAnyH P md l.toArray Q S (fuel + 1) listed a w :=
 wpAnyH_take (by
  have h1 : l[i]? = some oi := by rw [← List.head?_drop,hi];rfl
  simpa using h1) hs hf hr hQ hy hS h
theorem Qy {P : Program} {md : Region.Mode} {l : List Oper} {Q : Exit → Act → World → Prop} {S : World → Prop} {fuel : Nat} {listed : Array Bool} {a : Act} {w : World} {i : Nat} {o : Oper} {rest : List Oper} {rs : List Nat} (hi : l.drop i = o :: rest)
  (h : ∀ K' : Act → World → Prop,Shut (∀ a w,S w → (S w → wpAnyH P md l.toArray Q S fuel (listed.setIfInBounds i true) a w) → K' a w) → if Region.wanted o (yielded l.toArray a.tmps) = true then Oper.wp P o a w K' Q else K' (a.put o.dst undef) w)
  (hs : AllReadyH P md l.toArray Q S fuel listed a w rs) : AllReadyH P md l.toArray Q S fuel listed a w (i :: rs) :=
 AllReadyH.cons (by
  have h1 : l[i]? = some o := by rw [← List.head?_drop,hi];rfl
  simpa using h1) h hs
namespace Put
open Grd (C SliceAt Qb Qf z0 Q0 flat Qe)
open Prs (Qv)
theorem qma : Plain 212 := fun _ _ => by kernel_rfl
section
attribute [local go_sem ↓] Xp Jg
attribute [local go_sem] G7 Xx Xy
theorem qp4 (fid : FuncId) (ps : List Int) (d : Int) (p : Option Addr) (pc : Nat) (f : Phi) (h : Ct fid #[.int .i64 (par ps 0 d),.int .i64 (par ps 1 d)] f) (W : World) (B1 B2 B3 : Nat) (h1 : W.cell? ⟨B1,0,none⟩ = some (.func (.func fid) #[] #[])) (h2 : W.cell? ⟨B2,0,none⟩ = some (.slice p ps.length pc)) (h3 : W.cell? ⟨B3,0,none⟩ = some (.int .i64 d)) (hI : Qv W (.slice p ps.length pc) ps) : Jm W 212 #[.pointer (some ⟨B1,0,none⟩),.pointer (some ⟨B2,0,none⟩),.pointer (some ⟨B3,0,none⟩)] f := by
 refine ⟨qma,h.keeps,fun w0 w s cv tv gv n hh hw hm hR => ?_⟩
 obtain ⟨ca,cc,rfl⟩ := hm.m.v.c.shape;obtain ⟨ta,tc,rfl⟩ := hm.m.v.t.slice;obtain ⟨ga,gc,rfl⟩ := hm.m.v.g.slice;have hkb : Below w.heap.size w ((w.alloc (.cells (scS s ca cc ta tc ga gc) 32)).alloc (.cells zA 32)) := (((qr _ _).alloc (by simp) _).alloc (by simp) _)
 have hx0 : ((w.alloc (.cells (scS s ca cc ta tc ga gc) 32)).alloc (.cells zA 32)).heap[w.heap.size]? = _ := (qs _ _ _ (by simp)).trans (qf w (.cells (scS s ca cc ta tc ga gc) 32))
 have hx1 : ((w.alloc (.cells (scS s ca cc ta tc ga gc) 32)).alloc (.cells zA 32)).heap[w.heap.size + 1]? = _ := heap_alloc2_new w (.cells (scS s ca cc ta tc ga gc) 32) (.cells zA 32);have HX0 : Hid _ := hx0;have HX1 : Hid _ := hx1;have HKB : Hid _ := hkb;have HQ : Hid (∀ V,Below w.heap.size w V → V.cell? ⟨B1,0,none⟩ = some (.func (.func fid) #[] #[]) ∧ V.cell? ⟨B2,0,none⟩ = some (.slice p ps.length pc) ∧ V.cell? ⟨B3,0,none⟩ = some (.int .i64 d)) := fun V hV => ⟨Qa (hw.trans (hV.mono hw.size)) h1,Qa (hw.trans (hV.mono hw.size)) h2,Qa (hw.trans (hV.mono hw.size)) h3⟩
 have HP0 : Hid (∀ V,Below w.heap.size w V → Calls qP 99 #[.slice p ps.length pc,.int .i64 0,.int .i64 d] V fun e w' => e = .returned (.int .i64 (par ps 0 d)) ∧ V = w') := fun V hV => Vl ps p pc 0 d V (hI.next (hw.trans (hV.mono hw.size)))
 have HP1 : Hid (∀ V,Below w.heap.size w V → Calls qP 99 #[.slice p ps.length pc,.int .i64 1,.int .i64 d] V fun e w' => e = .returned (.int .i64 (par ps 1 d)) ∧ V = w') := fun V hV => Vl ps p pc 1 d V (hI.next (hw.trans (hV.mono hw.size)))
 have HC : Hid (∀ V,Below w.heap.size w V → Calls qP fid (#[.agg (scS s ca cc ta tc ga gc)] ++ #[.int .i64 (par ps 0 d),.int .i64 (par ps 1 d)]) V (Made w0 V (f n hh s) 0)) := fun V hV => h.runs w0 V s _ _ _ n hh (hm.next hV) hR
 have hpl := h.plain;unfold Plain at hpl;clear hkb hw hm hx0 hx1 hR h h1 h2 h3 hI;generalize f n hh s = s' at *;generalize par ps 0 d = x0 at *;generalize par ps 1 d = x1 at *;generalize ps.length = K0 at *;go_enter Tryz.func212,Tryz.ntmps212;go_upto_region 1 with fail
 generalize ((w.alloc (.cells (scS s ca cc ta tc ga gc) 32)).alloc (.cells zA 32)) = X at *;have SK : Hid (∀ w',Below X.heap.size X w' → (fun w' => Below w.heap.size w w' ∧ Zj w' (.pointer (some ⟨w.heap.size,0,none⟩)) ∧ Z7 w' (.pointer (some ⟨w.heap.size,0,none⟩)) = (scS s ca cc ta tc ga gc) ∧ Zc w' (.pointer (some ⟨w.heap.size + 1,0,none⟩))) w') := fun w' hb => by
  have h0 := Grd.carry HX0.out hb;exact ⟨HKB.out.trans (hb.mono HKB.out.size),(Qs h0).1,(Qs h0).2,Zb (Grd.carry HX1.out hb) rfl⟩
 have b0 : Below X.heap.size X X.drew := (qr _ _).drew;refine wp_region_held_drew (S := (fun w' => Below w.heap.size w w' ∧ Zj w' (.pointer (some ⟨w.heap.size,0,none⟩)) ∧ Z7 w' (.pointer (some ⟨w.heap.size,0,none⟩)) = (scS s ca cc ta tc ga gc) ∧ Zc w' (.pointer (some ⟨w.heap.size + 1,0,none⟩)))) (by kernel_rfl) (SK.out _ b0) (fun hHeld => ?_)
 generalize X.drew = Z0 at *;refine Qq (i := 0) (v := ?_) rfl (by kernel_rfl) (by kernel_rfl) (by kernel_rfl) (fun _ _ _ h => h) (Or.inl ⟨by rfl,?_⟩) hHeld ?_
 rotate_left
 ·intro w' hSw
  obtain ⟨y0,y1,y2,y3⟩ := hSw;obtain ⟨z1,z2,z3⟩ := HQ.out w' y0;go_simp
  (try with_reducible rfl)
 (try simp only [qx,qa,qb,qc])
 refine Qq (i := 1) (v := .agg (scS s ca cc ta tc ga gc)) rfl (by kernel_rfl) (by kernel_rfl) (by kernel_rfl) (fun _ _ _ h => h) (Or.inl ⟨by rfl,?_⟩) hHeld ?_
 ·intro w' hSw
  obtain ⟨y0,y1,y2,y3⟩ := hSw;refine (Xp _ _ _ _ _ _ _ w' ?_).trans ?_
  ·exact y1
  ·exact congrArg (fun z => Result.ok (Next.value (.agg z)) w') y2
 (try simp only [qx,qa,qb,qc])
 refine Qq (i := 2) (v := ?_) rfl (by kernel_rfl) (by kernel_rfl) (by kernel_rfl) (fun _ _ _ h => h) (Or.inl ⟨by rfl,?_⟩) hHeld ?_
 rotate_left
 ·intro w' hSw
  obtain ⟨y0,y1,y2,y3⟩ := hSw;obtain ⟨z1,z2,z3⟩ := HQ.out w' y0;go_simp
  (try with_reducible rfl)
 (try simp only [qx,qa,qb,qc])
 refine Qq (i := 3) (v := ?_) rfl (by kernel_rfl) (by kernel_rfl) (by kernel_rfl) (fun _ _ _ h => h) (Or.inl ⟨by rfl,?_⟩) hHeld ?_
 rotate_left
 ·intro w' hSw
  obtain ⟨y0,y1,y2,y3⟩ := hSw;obtain ⟨z1,z2,z3⟩ := HQ.out w' y0;go_simp
  (try with_reducible rfl)
 (try simp only [qx,qa,qb,qc])
 refine Qq (i := 5) (v := ?_) rfl (by kernel_rfl) (by kernel_rfl) (by kernel_rfl) (fun _ _ _ h => h) (Or.inl ⟨by rfl,?_⟩) hHeld ?_
 rotate_left
 ·intro w' hSw
  obtain ⟨y0,y1,y2,y3⟩ := hSw;obtain ⟨z1,z2,z3⟩ := HQ.out w' y0;go_simp
  (try with_reducible rfl)
 (try simp only [qx,qa,qb,qc])
 refine Qq (i := 6) (v := ?_) rfl (by kernel_rfl) (by kernel_rfl) (by kernel_rfl) (fun _ _ _ h => h) (Or.inl ⟨by rfl,?_⟩) hHeld ?_
 rotate_left
 ·intro w' hSw
  obtain ⟨y0,y1,y2,y3⟩ := hSw;obtain ⟨z1,z2,z3⟩ := HQ.out w' y0;go_simp
  (try with_reducible rfl)
 (try simp only [qx,qa,qb,qc])
 refine qm (rs := [4]) (by kernel_rfl) (by simp) ?_
 refine Qy rfl (fun K hK => ?_) <| qt
 ·go_simp
  refine (HP0.out _ (SK.out _ b0).1).mono ?_;rintro e V ⟨rfl,rfl⟩;go_wp2_with fail;refine hK.out _ _ (SK.out _ b0) (fun hHeld => ?_)
  clear hK K
  (try simp only [qx,qa,qb,qc])
  refine qm (rs := [7]) (by kernel_rfl) (by simp) ?_
  refine Qy rfl (fun K hK => ?_) <| qt
  ·go_simp
   refine (HP1.out _ (SK.out _ b0).1).mono ?_;rintro e V ⟨rfl,rfl⟩;go_wp2_with fail;refine hK.out _ _ (SK.out _ b0) (fun hHeld => ?_)
   clear hK K
   (try simp only [qx,qa,qb,qc])
   refine qm (rs := [8]) (by kernel_rfl) (by simp) ?_
   refine Qy rfl (fun K hK => ?_) <| qt
   ·go_simp
    refine (HC.out _ (SK.out _ b0).1).mono ?_;rintro e V ⟨cv',tv',gv',rfl,hO,c2⟩;obtain ⟨a1,n1,c1,a2,n2,c2',a3,n3,c3,rfl,rfl,rfl⟩ := hO.shapes;have b2 := b0.trans (c2.mono b0.size);have HO : Hid (Qo V 0 _ s' _ _ _) := hO;have HR : Hid (V.heap[w.heap.size + 1]? = _) := Grd.carry HX1.out b2;have KF : Hid _ := qr1 (s' := s') (cv' := .slice a1 n1 c1) (tv' := .slice a2 n2 c2') (gv' := .slice a3 n3 c3) (SK.out _ b2).1 (Grd.carry HX0.out b2) HR.out;have sp0 := Zb HR.out rfl;have hle := (SK.out _ b0).1.size;clear c2 hO;go_wp2_with fail;refine hK.out _ _ (SK.out _ b2) (fun hHeld => ?_)
    clear hK K
    (try simp only [qx,qa,qb,qc])
    refine Qq (i := 9) (v := ?_) rfl (by kernel_rfl) (by kernel_rfl) (by kernel_rfl) (fun _ _ _ h => h) (Or.inl ⟨by rfl,?_⟩) hHeld ?_
    rotate_left
    ·intro w' hSw
     obtain ⟨y0,y1,y2,y3⟩ := hSw;obtain ⟨z1,z2,z3⟩ := HQ.out w' y0;go_simp
     (try with_reducible rfl)
    (try simp only [qx,qa,qb,qc])
    refine Qq (i := 10) (v := ?_) rfl (by kernel_rfl) (by kernel_rfl) (by kernel_rfl) (fun _ _ _ h => h) (Or.inl ⟨by rfl,?_⟩) hHeld ?_
    rotate_left
    ·intro w' hSw
     obtain ⟨y0,y1,y2,y3⟩ := hSw;obtain ⟨z1,z2,z3⟩ := HQ.out w' y0;go_simp
     (try with_reducible rfl)
    (try simp only [qx,qa,qb,qc])
    refine qm (rs := [11]) (by kernel_rfl) (by simp) ?_
    refine Qy rfl (fun K hK => ?_) <| qt
    ·rw [if_pos (by rfl)]
     refine wp_store_row 32 (.tmp 5) (.tmp 16) rfl (w.heap.size + 1) (scT s' a1 n1 c1 a2 n2 c2' a3 n3 c3) rfl rfl _ _ HR.out (by kernel_rfl) rfl (Qm _ _ _ _ _ _ _ _ _ _) ?_
     refine hK.out _ _ KF.out (fun hHeld => ?_)
     clear hK K
     (try simp only [qx,qa,qb,qc])
     refine Qq (i := 12) (v := ?_) rfl (by kernel_rfl) (by kernel_rfl) (by kernel_rfl) (fun _ _ _ h => h) (Or.inl ⟨by rfl,?_⟩) hHeld ?_
     rotate_left
     ·intro w' hSw
      obtain ⟨y0,y1,y2,y3⟩ := hSw;obtain ⟨z1,z2,z3⟩ := HQ.out w' y0;go_simp
      (try with_reducible rfl)
     (try simp only [qx,qa,qb,qc])
     refine wpAnyH_done (by kernel_rfl) ?_ _
     go_wp2_with fail
     (try simp only [Exit.inBlock,Exit.then])
     refine bodyPost_ret (v := .tuple #[.agg (scT s' a1 n1 c1 a2 n2 c2' a3 n3 c3),.int .i64 0]) ?_ rfl ⟨_,_,_,rfl,?_,KF.out.1⟩
     ·exact Grd.Qd rfl _ _ (w.heap.size + 1) _ _ _ _ rfl (qj _ _ _ _ _ _ HR.out) qu rfl (by kernel_rfl) _ rfl
     ·exact (Qo.off HO.out HR.out Ql (Nat.zero_le _) fun k hk => qg _ _ _ _ hk).mono hle
end
theorem qmj (fid : FuncId) (ps : List Int) (d : Int) (p : Option Addr) (pc : Nat) (f : Phi) (h : Ct fid #[.int .i64 (par ps 0 d),.int .i64 (par ps 1 d)] f) (w : World) : Calls qP 161 #[.func (.func fid) #[] #[],.slice p ps.length pc,.int .i64 d] w (Zn (fun W => Qv W (.slice p ps.length pc) ps) w f) := by
 have hkb : Below w.heap.size w (((w.alloc (.cells #[.func (.func fid) #[] #[]] 158)).alloc (.cells #[.slice p ps.length pc] 33)).alloc (.cells #[.int .i64 d] 3)) := ((((qr _ _).alloc (by first | (simp;done) | (simp;omega)) _).alloc (by first | (simp;done) | (simp;omega)) _).alloc (by first | (simp;done) | (simp;omega)) _)
 have hk1 : Below w.heap.size w ((w.alloc (.cells #[.func (.func fid) #[] #[]] 158)).alloc (.cells #[.slice p ps.length pc] 33)) := (((qr _ _).alloc (by first | (simp;done) | (simp;omega)) _).alloc (by first | (simp;done) | (simp;omega)) _)
 have hx0 : (((w.alloc (.cells #[.func (.func fid) #[] #[]] 158)).alloc (.cells #[.slice p ps.length pc] 33)).alloc (.cells #[.int .i64 d] 3)).heap[w.heap.size]? = _ := (qs _ _ _ (by first | (simp;done) | (simp;omega))).trans ((qs _ _ _ (by first | (simp;done) | (simp;omega))).trans (qf w (.cells #[.func (.func fid) #[] #[]] 158)))
 have hx1 : (((w.alloc (.cells #[.func (.func fid) #[] #[]] 158)).alloc (.cells #[.slice p ps.length pc] 33)).alloc (.cells #[.int .i64 d] 3)).heap[w.heap.size + 1]? = _ := (qs _ _ _ (by first | (simp;done) | (simp;omega))).trans (heap_alloc2_new w (.cells #[.func (.func fid) #[] #[]] 158) (.cells #[.slice p ps.length pc] 33))
 have hx2 := heap_alloc2_new (w.alloc (.cells #[.func (.func fid) #[] #[]] 158)) (.cells #[.slice p ps.length pc] 33) (.cells #[.int .i64 d] 3);have e2 : (w.alloc (.cells #[.func (.func fid) #[] #[]] 158)).heap.size + 1 = w.heap.size + 1 + 1 := by simp
 rw [e2] at hx2;have HS : Hid (∀ W,Xg w (((w.alloc (.cells #[.func (.func fid) #[] #[]] 158)).alloc (.cells #[.slice p ps.length pc] 33)).alloc (.cells #[.int .i64 d] 3)) W → Qv W (.slice p ps.length pc) ps → Jm W _ _ f) := fun W hf hE => qp4 fid ps d p pc f h W w.heap.size (w.heap.size + 1) (w.heap.size + 1 + 1) (Zm (hf.blk (qd _) hx0)) (Zm (hf.blk (Nat.le_succ _) hx1)) (Zm (hf.blk (Nat.le_succ_of_le (Nat.le_succ _)) hx2)) hE
 have HK : Hid _ := h.keeps;have HKB : Hid _ := hkb;clear hkb hk1 hx0 hx1 hx2 h e2;go_enter Tryz.func161,Tryz.ntmps161;go_wp2_with fail;go_ret;exact ⟨_,_,rfl,HK.out,HS.out,HKB.out⟩
end Put
end Go.Proofs.YtooobiigijphkaaGreatDoor
