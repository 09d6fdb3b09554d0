/- Parts of the proof, shortened by a program. -/
import Derived.Test.YtooobiigijphkaaGreatDoorPartT
import Derived.Test.YtooobiigijphkaaGreatDoorPartS
import Derived.Deep.Cut
import Derived.Test.YtooobiigijphkaaGreatDoorPartJ
import Derived.Test.YtooobiigijphkaaGreatDoorPartQ
set_option maxHeartbeats 8000000
open List renaming setIfInBounds_toArray → qa, set_cons_zero → qb, set_cons_succ → qc, getD → qy
open Nat renaming le_refl → qd
open Go renaming heap_alloc_new → qf, setRow_other → qg, wpList_store_row → qh, below_setRow → qi, setRow_heap → qj, wpAnyH_ready → qm
open Go.RowKit.Below renaming refl → qr, heap_alloc → qs
open Go.AllReadyH renaming nil → qt
open Go.Proofs.Tryz renaming prog → qP, underlying32 → qu
open Go.Act renaming put → qx
namespace Go.Proofs.YtooobiigijphkaaGreatDoor
set_option linter.unusedVariables false
set_option linter.unusedSimpArgs false
set_option maxRecDepth 100000
open Go.ChangeShapes Go.WideShapes Go.ChangeAt Go.RowKit
namespace Put
open Grd (C SliceAt Qb Qf z0 Q0 flat Qe)
open Prs (Qv Fq EvAt EvsB)
def EqR (f g : Phi) : Prop := ∀ (s : Scr) (n hh : Nat),Qg s n hh → f n hh s = g n hh s
theorem EqR.refl (f : Phi) : EqR f f := fun _ _ _ _ => rfl
theorem EqR.snoc {fs gs : List Phi} {f : Phi} {hs : List Phi} (h : EqR (Qu fs) (Qu gs)) (hk : ∀ g,g ∈ fs → Xf g) (h1 : EqR f (Qu hs)) : EqR (Qu (fs ++ [f])) (Qu (gs ++ hs)) := fun s n hh hR => by
 rw [K9,K9,← h s n hh hR];exact h1 _ n hh (Jo hk s n hh hR)
theorem qoj : ∀ (es : List Prs.Ev), EqR (Z4 (lead es)) (Qu ((es.take (lead es).length).map Q9))
 | [],s,n,hh,hR => qi1 hR
 | e :: es,s,n,hh,hR => by
  by_cases h : e.kind = 1
  ·have e1 : lead (e :: es) = e.r :: lead es := by
    show (if e.kind = 1 then e.r :: lead es else []) = _
    rw [if_pos h]
   have e2 : Q9 e = Z4 [e.r] := by
    unfold Q9;rw [if_pos h]
   rw [e1,List.length_cons,List.take_succ_cons,List.map_cons,e2]
   show _ = Qu ((es.take (lead es).length).map Q9) n hh (Z4 [e.r] n hh s)
   rw [← qoj es _ n hh (Uk [e.r] s n hh hR),qjr hR]
   rfl
  ·have e1 : lead (e :: es) = [] := by
    show (if e.kind = 1 then e.r :: lead es else []) = _
    rw [if_neg h]
   rw [e1];exact qi1 hR
theorem q1j {w : World} {p : Option Addr} {n c : Nat} {es : List Prs.Ev} (h : Fq w (.slice p n c) es) (hn : 0 < es.length) : ∃ b o q,p = some ⟨b,o,none⟩ ∧ es.length ≤ c ∧ EvAt w b o (es.getD 0 ⟨0,0,0,0,⟨#[]⟩,[],⟨#[]⟩⟩) q := by
 rcases h with ⟨rfl,-⟩ | ⟨b,o,c,hv,hl,hc⟩
 ·exact absurd hn (Nat.lt_irrefl _)
 ·injection hv with h1 _ h3
  obtain ⟨q,hq⟩ := hc 0 hn;refine ⟨b,o,q,h1,by omega,?_⟩
  rw [qy,List.getElem?_eq_getElem hn];simpa using hq
theorem qrx {w : World} {b o n c : Nat} {es : List Prs.Ev} (h : Fq w (.slice (some ⟨b,o,none⟩) n c) es) (hn : 0 < es.length) (m : Nat) (hm : m ≤ es.length) : (c = m → es.drop m = []) ∧ Fq w (.slice (some ⟨b,o + m * 7,none⟩) (n - m) (c - m)) (es.drop m) := by
 rcases h with ⟨rfl,-⟩ | ⟨b',o',c',hv,hl,hc⟩
 ·exact absurd hn (Nat.lt_irrefl _)
 ·injection hv with h1 h2 h3
  injection h1 with h1
  injection h1 with h1 h4 _
  subst h1 h2 h3 h4;refine ⟨fun e => List.drop_eq_nil_of_le (by omega),.inr ⟨_,_,_,by rw [List.length_drop],by rw [List.length_drop];omega,fun i hi => ?_⟩⟩
  rw [List.length_drop] at hi;obtain ⟨q,hq⟩ := hc (m + i) (by omega)
  refine ⟨q,?_⟩;rw [List.getElem_drop];rw [show o + m * 7 + i * 7 = o + (m + i) * 7 by rw [Nat.add_mul];omega]
  exact hq
theorem qso {w : World} {p : Option Addr} {c : Nat} {es : List Prs.Ev} (h : es = []) : Fq w (.slice p 0 c) es := .inl ⟨h,_,_,rfl⟩
theorem qj8 (es : List Prs.Ev) (p : Option Addr) (c : Nat) (w : World) (hE : Fq w (.slice p es.length c) es) (hB : EvsB es) (hn : es.length ≤ 10000) : Calls qP 11 #[.slice p es.length c] w fun e w' => ∃ pa pc fs,e = .returned (.slice pa fs.length pc) ∧ (∀ f,f ∈ fs → Xf f) ∧ Yz w' (.slice pa fs.length pc) fs ∧ fs.length ≤ 10000 ∧ EqR (Qu fs) (Qu (es.map Q9)) ∧ Below w.heap.size w w' := by
 obtain ⟨i0,hi,hzz⟩ := Option.map_eq_some_iff.1 qgy;simp only [Prod.mk.injEq] at hzz;obtain ⟨hz0,hz1,hz2⟩ := hzz;have HE : Hid (Fq w (.slice p es.length c) es) := hE;have HEB : Hid (EvsB es) := hB;obtain ⟨K,hK⟩ : ∃ K,es.length = K := ⟨_,rfl⟩;have HK : Hid (es.length = K) := hK;rw [hK] at hn HE ⊢;clear hK hE hB;go_enter Tryz.func11,Tryz.ntmps11;go_wp2_with fail;go_loopg [0,3] K (fun q ev sv wr => ∃ (k : Nat) (L : List (Value × Phi)) (p' : Option Addr) (c' : Nat),k ≤ K ∧ K - k ≤ q ∧ ev = .slice p' (K - k) c' ∧ Fq w (.slice p' (K - k) c') (es.drop k) ∧ SL (fun X => Below w.heap.size w X) w.heap.size wr sv L ∧ L.length ≤ k ∧ EqR (Qu (L.map (·.2))) (Qu ((es.take k).map Q9)) ∧ Below w.heap.size w wr)
 case atStart => exact ⟨0,[],p,c,by omega,by omega,rfl,HE.out,SL.nil _ _ _,qd _,EqR.refl _,qr _ _⟩
 case round =>
  clear HE;obtain ⟨k,L,p',c',hk,hq,rfl,hev,hS,hL,hq2,hb⟩ := hrel;have HEV : Hid (Fq w (.slice p' (K - k) c') (es.drop k)) := hev;have HSL : Hid (SL (fun X => Below w.heap.size w X) w.heap.size wr _ L) := hS
  have HQ : Hid (EqR (Qu (L.map (·.2))) (Qu ((es.take k).map Q9))) := hq2;have HB : Hid (Below w.heap.size w wr) := hb;obtain ⟨sa,sc,hsv⟩ := Qz hS.own;subst hsv;have hwr := hb.size;have hrl : (es.drop k).length = K - k := by rw [List.length_drop,HK.out]
  by_cases hlt : k < K
  ·obtain ⟨b, o, qv, rfl, hcap, h0⟩ := q1j hev (by omega)
   have HLD := qn3 (es.drop k) (some ⟨b,o,none⟩) c' wr (by rw [hrl];exact hev.next hb) (by omega)
   rw [hrl] at HLD hcap;have hpos : 0 < K - k := by omega
   have hpi : (0 : Int) < ((K - k : Nat) : Int) := by omega
   have hml := qgt (es.drop k);rw [hrl] at hml;have HRL : Hid ((es.drop k).length = K - k) := hrl;have hkl : ∀ g,g ∈ L.map (·.2) → Xf g := fun f hf => by
    obtain ⟨x,hx,rfl⟩ := List.mem_map.1 hf;exact (hS.all x hx).keeps
   have HKL : Hid (∀ g,g ∈ L.map (·.2) → Xf g) := hkl;clear hev hS hb hq2 hrl hkl;generalize hm : K - k = n at *;go_wp2_with fail;refine HLD.mono ?_;rintro e W1 ⟨ra,rc,rfl,hro,b1⟩;have HRO : Hid (W1.ownsRow wr.heap.size 21 1 _ (lead (es.drop k)).length (rnV (lead (es.drop k)))) := hro;have HB1 : Hid _ := b1;have hw1 := b1.size;clear hro b1 HLD
   by_cases hz : (lead (es.drop k)).length = 0
   ·have hBW : Below w.heap.size w W1 := HB.out.trans (HB1.out.mono HB.out.size)
    have hd1 : (es.drop k).take 1 = [(es.drop k).getD 0 ⟨0,0,0,0,⟨#[]⟩,[],⟨#[]⟩⟩] := by
     have h : 0 < (es.drop k).length := by rw [HRL.out];exact hpos
     rw [qy,List.getElem?_eq_getElem h];rw [List.take_add_one,List.take_zero,List.getElem?_eq_getElem h]
     rfl
    have hmem : (es.drop k).getD 0 ⟨0,0,0,0,⟨#[]⟩,[],⟨#[]⟩⟩ ∈ es := by
     have h : 0 < (es.drop k).length := by rw [HRL.out];exact hpos
     rw [qy,List.getElem?_eq_getElem h];exact List.mem_of_mem_drop (List.getElem_mem h)
    have hbe := HEB.out _ hmem;have HCT : Hid _ := qrx HEV.out (by rw [HRL.out];exact hpos) 1 (by rw [HRL.out];omega)
    have HEQ : Hid (∀ f,f = Q9 ((es.drop k).getD 0 ⟨0,0,0,0,⟨#[]⟩,[],⟨#[]⟩⟩) → EqR (Qu (L.map (·.2) ++ [f])) (Qu ((es.take (k + 1)).map Q9))) := fun f hf => by
     rw [List.take_add,List.map_append,hd1,hf];exact HQ.out.snoc HKL.out (EqR.refl _)
    clear hmem hd1;generalize (es.drop k).getD 0 ⟨0,0,0,0,⟨#[]⟩,[],⟨#[]⟩⟩ = ev at *;obtain ⟨qa,qc,hqv⟩ := h0.ps.slice;subst hqv;have g0 := h0.next hBW;have HME := qmm ev qa qc W1 g0.ps hbe;have HPS : Hid (∀ X,Below w.heap.size w X → Qv X (.slice qa ev.ps.length qc) ev.ps) := fun X hX => (h0.next hX).ps
    have HPH : Hid (Q9 ev = Q9 ev) := rfl;have HEQ2 := HEQ.out _ rfl;clear HEQ;have HEQ : Hid _ := HEQ2;clear HEQ2;have e0 := g0.c0;have e1 := g0.c1;have e2 := g0.c2;have e3 := g0.c3;have e4 := g0.c4;have e5 := g0.c5;have e6 := g0.c6;clear h0 g0 hbe hBW HRO;obtain ⟨FF,hFF⟩ : ∃ FF,Q9 ev = FF := ⟨_,rfl⟩;rw [hFF] at HME HEQ;clear hFF HPH;obtain ⟨kind,r,fin,mark,mid,ps,txt⟩ := ev;simp only at e0 e1 e2 e3 e4 e5 e6 HME HPS;have HPL : Hid (∀ X,Below w.heap.size w X → Qv X (.slice qa ps.length qc) ps) := HPS.out;clear HPS;obtain ⟨EE,hEE⟩ : ∃ EE : World → Prop,(fun W => Qv W (.slice qa ps.length qc) ps) = EE := ⟨_,rfl⟩
    rw [hEE] at HME;have HPS : Hid (∀ X,Below w.heap.size w X → EE X) := fun X hX => by
     rw [← hEE];exact HPL.out X hX
    clear hEE HPL;generalize ps.length = np at *;go_wp2_with (first | (go_at_call 33;refine HME.mono ?_;rintro e W2 ⟨fid,caps,rfl,hkp,h2,b2⟩) | (at_builtin;refine Hid.out ?_));have HF : Hid (∀ X,Xg wr W2 X → Below w.heap.size w X → Jm X fid caps FF) := fun X hf hx => h2 X (hf.inner hw1 (qr _ _)) (HPS.out X hx)
    clear HME e0 e1 e2 e3 e4 e5 e6;unfold Hid;have bW2 : Below wr.heap.size wr W2 := HB1.out.trans (b2.mono HB1.out.size);have hw2 := bW2.size;have y2 := qf W2 (.cells #[(.func (.func fid) #[] caps)] 49);have hown2 := Grd.ownsRow_below HSL.out.own bW2;have hfrom := Grd.qb7 HSL.out.own;refine wpList_append_own_at _ rfl _ _ 51 rfl w.heap.size 49 i0 .nilFunc 1 8 qd5 hi hz0 hz1 hz2 rfl (by decide) (.slice sa L.length sc) L.length (L.map (·.1)) rfl (hown2.alloc _) ⟨W2.heap.size,0,none⟩ 1 1 [(.func (.func fid) #[] caps)] rfl rfl (Prs.cells_of_block (L := [(.func (.func fid) #[] caps)]) y2) (by intro u hu;simp at hu;rw [hu];rfl) (by unfold maxLen;omega) (by omega) (by simp;omega) ?_
    intro v3 W4 hown3 hgr hnil hat;have HSN : Hid _ := SL.append HSL.out HF.out hkp bW2 hwr hown3 hgr hat;have kb2 := HB.out.trans (bW2.mono HB.out.size);have HB4 : Hid (Below w.heap.size w W4) := (kb2.alloc kb2.size _).grown hgr (by simp;omega) (fun q hq => by have := hfrom q hq;omega)
    clear hgr hat hnil hown3 hown2 y2 kb2 bW2 b2 h2 hkp hfrom;have HEQ : Hid (EqR (Qu ((L ++ [(Value.func (.func fid) #[] caps,FF)]).map (·.2))) (Qu ((es.take (k + 1)).map Q9))) := by
     unfold Hid;rw [List.map_append];exact HEQ.out
    have HLN : Hid ((L ++ [(Value.func (.func fid) #[] caps,FF)]).length ≤ k + 1) := by
     unfold Hid;rw [List.length_append,List.length_singleton];omega
    by_cases hcm : c' = 1
    ·have hcm2 : c' = 1 := hcm
     go_wp2_with fail;go_roundg (K - (k + 1))
     case measure => omega
     case rel => exact ⟨k + 1,_,_,_,by omega,by omega,by rw [show K - (k + 1) = n - 1 by omega],by rw [show K - (k + 1) = 0 by omega,← List.drop_drop];exact qso (HCT.out.1 hcm),HSN.out,HLN.out,HEQ.out,HB4.out⟩
    ·go_wp2_with fail
     go_roundg (K - (k + 1))
     case measure => omega
     case rel => exact ⟨k + 1,_,_,_,by omega,by omega,by rw [show K - (k + 1) = n - 1 by omega],by rw [show K - (k + 1) = n - 1 by omega,← List.drop_drop];exact HCT.out.2,HSN.out,HLN.out,HEQ.out,HB4.out⟩
   ·have hzp : 0 < (lead (es.drop k)).length := by omega
    have hzi : (0 : Int) < ((lead (es.drop k)).length : Int) := by omega
    have HPR := qf5 (lead (es.drop k)) ra rc W1 (by omega)
    have HCT : Hid _ := qrx HEV.out (by rw [HRL.out];exact hpos) (lead (es.drop k)).length (by rw [HRL.out];exact hml)
    have HEQ0 : EqR (Qu (L.map (·.2) ++ [Z4 (lead (es.drop k))])) (Qu ((es.take (k + (lead (es.drop k)).length)).map Q9)) := by
     rw [List.take_add,List.map_append];exact HQ.out.snoc HKL.out (qoj _)
    have HI3 : Hid (∀ X, Xg wr W1 X → I32V X (.slice ra (lead (es.drop k)).length rc) (lead (es.drop k))) := fun X hf => qs2 (base := wr.heap.size) (Ze HRO.out fun g hg => by
     obtain ⟨hwg,A,fr,hA⟩ := Qn HRO.out g hg
     exact hf.2 g hwg (Qc hA))
    have HEQ : Hid (EqR (Qu ((L ++ [((.slice none 0 0 : Value),Z4 (lead (es.drop k)))]).map (·.2))) (Qu ((es.take (k + (lead (es.drop k)).length)).map Q9))) := by
     unfold Hid;rw [List.map_append];exact HEQ0
    clear HEQ0 HRO h0;obtain ⟨FF,hFF⟩ : ∃ FF,Z4 (lead (es.drop k)) = FF := ⟨_,rfl⟩;rw [hFF] at HPR HEQ;clear hFF;generalize hl : (lead (es.drop k)).length = m at *;go_wp2_with (first | (go_at_call 32;refine HPR.mono ?_;rintro e W2 ⟨fid,caps,rfl,hkp,h2,b2⟩) | (at_builtin;refine Hid.out ?_));have HF : Hid (∀ X,Xg wr W2 X → Below w.heap.size w X → Jm X fid caps FF) := fun X hf _ => h2 X (hf.inner hw1 (qr _ _)) (HI3.out X (hf.inner (qd _) b2))
    clear HPR;unfold Hid;have bW2 : Below wr.heap.size wr W2 := HB1.out.trans (b2.mono HB1.out.size);have hw2 := bW2.size;have y2 := qf W2 (.cells #[(.func (.func fid) #[] caps)] 49);have hown2 := Grd.ownsRow_below HSL.out.own bW2;have hfrom := Grd.qb7 HSL.out.own;refine wpList_append_own_at _ rfl _ _ 51 rfl w.heap.size 49 i0 .nilFunc 1 8 qd5 hi hz0 hz1 hz2 rfl (by decide) (.slice sa L.length sc) L.length (L.map (·.1)) rfl (hown2.alloc _) ⟨W2.heap.size,0,none⟩ 1 1 [(.func (.func fid) #[] caps)] rfl rfl (Prs.cells_of_block (L := [(.func (.func fid) #[] caps)]) y2) (by intro u hu;simp at hu;rw [hu];rfl) (by unfold maxLen;omega) (by omega) (by simp;omega) ?_
    intro v3 W4 hown3 hgr hnil hat;have HSN : Hid _ := SL.append HSL.out HF.out hkp bW2 hwr hown3 hgr hat;have kb2 := HB.out.trans (bW2.mono HB.out.size);have HB4 : Hid (Below w.heap.size w W4) := (kb2.alloc kb2.size _).grown hgr (by simp;omega) (fun q hq => by have := hfrom q hq;omega)
    clear hgr hat hnil hown3 hown2 y2 kb2 bW2 b2 h2 hkp hfrom;have HEQ : Hid (EqR (Qu ((L ++ [(Value.func (.func fid) #[] caps,FF)]).map (·.2))) (Qu ((es.take (k + m)).map Q9))) := by
     have h := HEQ.out;rw [List.map_append] at h ⊢;exact h
    have HLN : Hid ((L ++ [(Value.func (.func fid) #[] caps,FF)]).length ≤ k + m) := by
     unfold Hid;rw [List.length_append,List.length_singleton];omega
    by_cases hcm : c' = m
    ·have hcm2 : c' = m := hcm
     go_wp2_with fail;go_roundg (K - (k + m))
     case measure => omega
     case rel => exact ⟨k + m,_,_,_,by omega,by omega,by rw [show K - (k + m) = n - m by omega],by rw [show K - (k + m) = 0 by omega,← List.drop_drop];exact qso (HCT.out.1 hcm),HSN.out,HLN.out,HEQ.out,HB4.out⟩
    ·go_wp2_with fail
     go_roundg (K - (k + m))
     case measure => omega
     case rel => exact ⟨k + m,_,_,_,by omega,by omega,by rw [show K - (k + m) = n - m by omega],by rw [show K - (k + m) = n - m by omega,← List.drop_drop];exact HCT.out.2,HSN.out,HLN.out,HEQ.out,HB4.out⟩
  ·have hpn : ¬ (0 < K - k) := by omega
   have hpi : ¬ ((0 : Int) < ((K - k : Nat) : Int)) := by omega
   have e : k = K := by omega
   have hkl : ∀ g,g ∈ L.map (·.2) → Xf g := fun f hf => by
    obtain ⟨x,hx,rfl⟩ := List.mem_map.1 hf;exact (hS.all x hx).keeps
   have HKL : Hid (∀ g,g ∈ L.map (·.2) → Xf g) := hkl;have hst := hS.steps (w := w) (qd _) (Xg.refl _ _) hb;have HST : Hid (Yz wr (.slice sa L.length sc) (L.map (·.2))) := hst;have HQ2 : Hid (EqR (Qu (L.map (·.2))) (Qu (es.map Q9))) := by
    have h := HQ.out;rw [List.take_of_length_le (by rw [HK.out];omega)] at h
    exact h
   clear hst hev hS hb hq2 hkl hrl;generalize hm : K - k = n at *;go_wp2_with fail;go_ret;have hlm : (L.map (·.2)).length = L.length := List.length_map _;refine ⟨sa,sc,L.map (·.2),by rw [hlm];rfl,HKL.out,by rw [hlm];exact HST.out,by omega,HQ2.out,HB.out⟩
end Put
namespace Prs
theorem qxx : ∀ (l : List UInt8) (s : St),(feed s l).2.length + (feed s l).1.left.size ≤ s.left.size + l.length := fun l => by
 induction l with
 | nil => intro s;simp [feed]
 | cons x l ih =>
  intro s;have h1 := ih (take s x).1;have h2 := qm5 s x;simp only [feed,List.length_append,List.length_cons];omega
theorem qxi (s : St) (b : ByteArray) (k : Nat) : feed s b.data.toList = ((feed (feed s (b.extract 0 k).data.toList).1 (b.extract k b.size).data.toList).1,(feed s (b.extract 0 k).data.toList).2 ++ (feed (feed s (b.extract 0 k).data.toList).1 (b.extract k b.size).data.toList).2) := by
 have e : b.data.toList = (b.extract 0 k).data.toList ++ (b.extract k b.size).data.toList := by
  rw [ByteArray.data_extract,ByteArray.data_extract,Array.toList_extract,Array.toList_extract,List.extract_eq_take_drop,List.extract_eq_take_drop];have h2 : b.size = b.data.toList.length := by rw [Array.length_toList];rfl
  rw [List.drop_zero,Nat.sub_zero,h2,List.take_of_length_le (l := b.data.toList.drop k) (by rw [List.length_drop];omega),List.take_append_drop]
 rw [e,qea]
end Prs
namespace Put
open Grd (C SliceAt Qb Qf z0 Q0 flat Qe)
open Prs (Qv Fq EvAt EvsB stV)
theorem V5 {P : Program} {fn : Func} {p q v : Tmp} {ty ty' : TypeId} (h : fn.results = #[.cell p ty, .cell q ty', .tmp v]) (tmps : Array Value) (w : World) (g g' : Nat) (t t' : TypeId) (cs cs' : Array Value) (fr fr' : Nat × Nat) (d d' : TypeDesc)
  (hp : tmps.getD p undef = .pointer (some ⟨g,0,none⟩)) (hg : w.heap[g]? = some (.cells cs t fr)) (hq : tmps.getD q undef = .pointer (some ⟨g',0,none⟩)) (hg' : w.heap[g']? = some (.cells cs' t' fr'))
  (hu : P.underlying ty = some d) (hd : (match d with | .struct _ | .array _ _ => true | _ => false) = true) (hi : (P.info? ty).map (·.size) = some cs.size)
  (hu' : P.underlying ty' = some d') (hd' : (match d' with | .struct _ | .array _ _ => true | _ => false) = true) (hi' : (P.info? ty').map (·.size) = some cs'.size) (x : Value) (hx : tmps.getD v undef = x) :
  (results fn tmps).run P w = .ok (.tuple #[.agg cs,.agg cs',x]) w := by
 have hp' : tmps[p]?.getD undef = .pointer (some ⟨g,0,none⟩) := by simpa using hp
 have hq' : tmps[q]?.getD undef = .pointer (some ⟨g',0,none⟩) := by simpa using hq
 have hx' : tmps[v]?.getD undef = x := by simpa using hx
 simp [results,h,hp',hq',hx',asAddr,run_loadVar_row w g t ty cs fr d hg hu hd hi,run_loadVar_row w g' t' ty' cs' fr' d' hg' hu' hd' hi']
theorem qth (s : Prs.St) (pv : Value) (b : ByteArray) (w : World) (hT : Prs.Tabs w) (hI : Qv w pv s.ps) (ho : Prs.Ok s) (hb : b.size ≤ 4000) :
  Calls qP 9 #[stV s pv,.string b] w fun e w' => ∃ pv' tv',e = .returned (.tuple #[stV (Prs.feed s b.data.toList).1 pv',tv',.int .i64 0]) ∧ w'.ownsRow w.heap.size 3 1 pv' (Prs.feed s b.data.toList).1.ps.length (Prs.ints (Prs.feed s b.data.toList).1.ps) ∧ Prs.EvsV w' w.heap.size tv' (Prs.feed s b.data.toList).2 ∧ Below w.heap.size w w' := by
 refine Prs.qzc s pv b w hT hI ho.fit (by have := ho.ms;omega) (by have := ho.tl;omega) (by have := Prs.qgj ho.fl;omega) hb (fun W hW => ?_)
 refine (Prs.Xd s pv W (hT.next hW) (hI.next hW) (by have := ho.ms;omega) (by have := ho.tl;omega)).mono ?_
 rintro e W' ⟨rfl,b1⟩;exact ⟨by rw [(Prs.qrz s).2 ho],b1⟩
theorem Uj {W W' : World} {base : Nat} {e : TypeId} {z : Nat} {v : Value} {n : Nat} {xs : List Value} (h : W.ownsRow base e z v n xs) (hk : ∀ g,base ≤ g → W'.heap[g]? = W.heap[g]?) : W'.ownsRow base e z v n xs := Ze h fun g hg => hk g (Qn h g hg).1
theorem qv5 {W W' : World} {base : Nat} {v : Value} {es : List Prs.Ev} (h : Prs.EvsV W base v es) (hk : ∀ g,base ≤ g → W'.heap[g]? = W.heap[g]?) : Prs.EvsV W' base v es := by
 obtain ⟨eqs,h1,h2,h3⟩ := h;exact ⟨eqs,Uj h1 hk,h2,fun x hx => Uj (h3 x hx) hk⟩
theorem Fs (W : World) (B base : Nat) (cs : Array Value) (hB : B < base) : ∀ g,base ≤ g → (W.setRow B cs).heap[g]? = W.heap[g]? := fun g hg => qg _ _ _ _ (by omega)
theorem ql3 : X6 35 := by unfold X6;decide
theorem qhq (a m : Int) (x y z : ByteArray) (p : Option Addr) (n c : Nat) (l : Bool) : (#[.int .i64 a,.int .u8 m,.string x,.slice p n c,.string y,.string z,.bool l] : Array Value).all (·.oneCell') = true := by simp [Value.oneCell']
def FedS (w : World) (s' : Scr) (st' : Prs.St) (e : Ending) (W : World) : Prop := ∃ cv' tv' gv' pv',e = .returned (.tuple #[.agg (scrA s' cv' tv' gv'),stV st' pv',.int .i64 0]) ∧ Qo W 0 w.heap.size s' cv' tv' gv' ∧ W.ownsRow w.heap.size 3 1 pv' st'.ps.length (Prs.ints st'.ps) ∧ Below w.heap.size w W
theorem qtf {w0 w : World} {s : Scr} {cv tv gv : Value} {n hh : Nat} (hm : MetS w0 w s cv tv gv) (hR : Qg s n hh) (st : Prs.St) (pv : Value) (hI : Qv w pv st.ps) (ho : Prs.Ok st) (b : ByteArray) (hb : b.size ≤ 4000) (hT : Prs.Tabs w) : Calls qP 4 #[.agg (scrA s cv tv gv),stV st pv,.string b] w (FedS w (Qu ((Prs.feed st b.data.toList).2.map Q9) n hh s) (Prs.feed st b.data.toList).1) := by
 obtain ⟨ca,cc,rfl⟩ := hm.m.v.c.shape;obtain ⟨ta,tc,rfl⟩ := hm.m.v.t.slice;obtain ⟨ga,gc,rfl⟩ := hm.m.v.g.slice;obtain ⟨pa,pc,rfl⟩ := hI.slice
 show Calls qP 4 #[.agg (scS s ca cc ta tc ga gc),.agg (sAq st (.slice pa st.ps.length pc)),.string b] w _
 have k1 : Below w.heap.size w (w.alloc (.cells (scS s ca cc ta tc ga gc) 32)) := (qr _ _).alloc (qd _) _;have hkb : Below w.heap.size w ((((w.alloc (.cells (scS s ca cc ta tc ga gc) 32)).alloc (.cells (sAq st (.slice pa st.ps.length pc)) 35)).alloc (.cells zA 32)).alloc (.cells zSq 35)) := (((k1.alloc k1.size _).alloc (by first | (simp;done) | (simp;omega)) _).alloc (by first | (simp;done) | (simp;omega)) _)
 have hsz : ((((w.alloc (.cells (scS s ca cc ta tc ga gc) 32)).alloc (.cells (sAq st (.slice pa st.ps.length pc)) 35)).alloc (.cells zA 32)).alloc (.cells zSq 35)).heap.size = w.heap.size + 1 + 1 + 1 + 1 := by simp
 have hx0 : ((((w.alloc (.cells (scS s ca cc ta tc ga gc) 32)).alloc (.cells (sAq st (.slice pa st.ps.length pc)) 35)).alloc (.cells zA 32)).alloc (.cells zSq 35)).heap[w.heap.size]? = some (.cells (scS s ca cc ta tc ga gc) 32 (0,0)) := (qs _ _ _ (by first | (simp;done) | (simp;omega))).trans ((qs _ _ _ (by first | (simp;done) | (simp;omega))).trans ((qs _ _ _ (by first | (simp;done) | (simp;omega))).trans (qf w _)))
 have hx1 : ((((w.alloc (.cells (scS s ca cc ta tc ga gc) 32)).alloc (.cells (sAq st (.slice pa st.ps.length pc)) 35)).alloc (.cells zA 32)).alloc (.cells zSq 35)).heap[w.heap.size + 1]? = some (.cells (sAq st (.slice pa st.ps.length pc)) 35 (0,0)) := (qs _ _ _ (by first | (simp;done) | (simp;omega))).trans ((qs _ _ _ (by first | (simp;done) | (simp;omega))).trans (heap_alloc2_new w _ _))
 have e1 : (w.alloc (.cells (scS s ca cc ta tc ga gc) 32)).heap.size = w.heap.size + 1 := by simp
 have e2 : ((w.alloc (.cells (scS s ca cc ta tc ga gc) 32)).alloc (.cells (sAq st (.slice pa st.ps.length pc)) 35)).heap.size = w.heap.size + 1 + 1 := by simp
 have hx2 : ((((w.alloc (.cells (scS s ca cc ta tc ga gc) 32)).alloc (.cells (sAq st (.slice pa st.ps.length pc)) 35)).alloc (.cells zA 32)).alloc (.cells zSq 35)).heap[w.heap.size + 1 + 1]? = some (.cells zA 32 (0,0)) := (qs _ _ _ (by first | (simp;done) | (simp;omega))).trans (by rw [← e1];exact heap_alloc2_new (w.alloc (.cells (scS s ca cc ta tc ga gc) 32)) _ _)
 have hx3 : ((((w.alloc (.cells (scS s ca cc ta tc ga gc) 32)).alloc (.cells (sAq st (.slice pa st.ps.length pc)) 35)).alloc (.cells zA 32)).alloc (.cells zSq 35)).heap[w.heap.size + 1 + 1 + 1]? = some (.cells zSq 35 (0,0)) := by rw [← e2];exact heap_alloc2_new ((w.alloc (.cells (scS s ca cc ta tc ga gc) 32)).alloc (.cells (sAq st (.slice pa st.ps.length pc)) 35)) _ _
 have HX0 : Hid _ := hx0;have HX1 : Hid _ := hx1;have HX2 : Hid _ := hx2;have HX3 : Hid _ := hx3;have HKB : Hid _ := hkb;have HR : Hid (Qg s n hh) := hR;have HM : Hid (∀ X,Below w.heap.size w X → MetS w0 X s (.slice ca s.cs.length cc) (.slice ta s.tabs.length tc) (.slice ga s.gone.length gc)) := fun X hX => hm.next hX
 have HCK := Zt s _ _ _ _ (Grd.Tab.next hm.m.t hkb) (hm.m.v.next (hm.m.b.trans (hkb.mono hm.m.b.size))) hm.m.f;rw [Yh hR] at HCK;have HFD : Hid (∀ X,Below w.heap.size w X → Calls qP 9 #[.agg (sAq st (.slice pa st.ps.length pc)),.string b] X fun e w' => ∃ pv' tv',e = .returned (.tuple #[stV (Prs.feed st b.data.toList).1 pv',tv',.int .i64 0]) ∧ w'.ownsRow X.heap.size 3 1 pv' (Prs.feed st b.data.toList).1.ps.length (Prs.ints (Prs.feed st b.data.toList).1.ps) ∧ Prs.EvsV w' X.heap.size tv' (Prs.feed st b.data.toList).2 ∧ Below X.heap.size X w') := fun X hX => qth st _ b X (hT.next hX) (hI.next hX) ho hb
 have HEB : Hid (EvsB (Prs.feed st b.data.toList).2) := Prs.qtj b.data.toList st ho;have hlen := Prs.qxx b.data.toList st;have hlb := Prs.qgj ho.fl;have hlz : b.data.toList.length = b.size := by rw [Array.length_toList];rfl
 have hen : (Prs.feed st b.data.toList).2.length ≤ 10000 := by omega
 clear hkb hx0 hx1 hx2 hx3 k1 hm hR hI ho hT hlen hlb hlz e1 e2;obtain ⟨st1,es,hfe⟩ : ∃ st1 es,Prs.feed st b.data.toList = (st1,es) := ⟨_,_,rfl⟩;rw [hfe] at HFD HEB hen ⊢;simp only at HFD HEB hen ⊢;clear hfe;go_enter Tryz.func4,Tryz.ntmps4;go_upto_region 1 with fail
 generalize ((((w.alloc (.cells (scS s ca cc ta tc ga gc) 32)).alloc (.cells (sAq st (.slice pa st.ps.length pc)) 35)).alloc (.cells zA 32)).alloc (.cells zSq 35)) = X at *;obtain ⟨d0,d1,d2,d3,d4,d5,d6,df⟩ := Prs.Z8 HX1.out;go_wp2_with (refine wpList_load_row rfl 32 (.tmp 3) rfl w.heap.size rfl _ _ _ _ HX0.out qu rfl (by kernel_rfl) ?_)
 refine HCK.mono ?_;rintro e Y0 ⟨rfl,bY0⟩;have HY0 : Hid (Y0.heap[w.heap.size]? = _) := Grd.carry HX0.out bY0;have HY1 : Hid (Y0.heap[w.heap.size + 1]? = _) := Grd.carry HX1.out bY0;have HY2 : Hid (Y0.heap[w.heap.size + 1 + 1]? = _) := Grd.carry HX2.out bY0;have HY3 : Hid (Y0.heap[w.heap.size + 1 + 1 + 1]? = _) := Grd.carry HX3.out bY0;have HBY : Hid (Below w.heap.size w Y0) := HKB.out.trans (bY0.mono HKB.out.size);clear HX0 HX1 HX2 HX3 HKB bY0 HCK d0 d1 d2 d3 d4 d5 d6 df hsz;obtain ⟨d0,d1,d2,d3,d4,d5,d6,df⟩ := Prs.Z8 HY1.out;go_wp2_with fail;unfold stV at HFD;refine (HFD.out Y0 HBY.out).mono ?_;rintro e Y1 ⟨pv',tv',rfl,hI1,hE1,bY1⟩;obtain ⟨qa,qc,rfl⟩ := Qz hI1;obtain ⟨va,vc,rfl⟩ := hE1.read.slice;have hY4 : w.heap.size + 1 + 1 + 1 < Y0.heap.size := Qc HY3.out;have HZ1 : Hid (Y1.heap[w.heap.size + 1]? = _) := Grd.carry HY1.out bY1;have KY0 : Hid ((Y1.setRow (w.heap.size + 1) (sAq st1 (.slice qa st1.ps.length qc))).heap[w.heap.size]? = _) := (qg _ _ _ _ (by omega)).trans (Grd.carry HY0.out bY1)
 have KY1 : Hid ((Y1.setRow (w.heap.size + 1) (sAq st1 (.slice qa st1.ps.length qc))).heap[w.heap.size + 1]? = some (.cells (sAq st1 (.slice qa st1.ps.length qc)) 35 (0,0))) := qj _ _ _ _ _ _ HZ1.out;have KY2 : Hid ((Y1.setRow (w.heap.size + 1) (sAq st1 (.slice qa st1.ps.length qc))).heap[w.heap.size + 1 + 1]? = _) := (qg _ _ _ _ (by omega)).trans (Grd.carry HY2.out bY1)
 have KY3 : Hid ((Y1.setRow (w.heap.size + 1) (sAq st1 (.slice qa st1.ps.length qc))).heap[w.heap.size + 1 + 1 + 1]? = _) := (qg _ _ _ _ (by omega)).trans (Grd.carry HY3.out bY1)
 have KB : Hid (Below w.heap.size w (Y1.setRow (w.heap.size + 1) (sAq st1 (.slice qa st1.ps.length qc)))) := qi (HBY.out.trans (bY1.mono HBY.out.size)) (Nat.le_succ _) _;have KI : Hid ((Y1.setRow (w.heap.size + 1) (sAq st1 (.slice qa st1.ps.length qc))).ownsRow Y0.heap.size 3 1 (.slice qa st1.ps.length qc) st1.ps.length (Prs.ints st1.ps)) := Uj hI1 (Fs _ _ _ _ (by omega))
 have KE : Hid (Fq (Y1.setRow (w.heap.size + 1) (sAq st1 (.slice qa st1.ps.length qc))) (.slice va es.length vc) es) := (qv5 hE1 (Fs _ _ _ _ (by omega))).cut
 clear HY0 HY1 HY2 HY3 HBY bY1 hI1 hE1 HFD d0 d1 d2 d3 d4 d5 d6 df;generalize Y0.heap.size = N0 at *;go_upto_region 7 with (refine qh rfl 35 (.tmp 4) (.tmp 23) rfl (w.heap.size + 1) (sAq st1 (.slice qa st1.ps.length qc)) rfl rfl _ _ HZ1.out (by kernel_rfl) rfl (qhq _ _ _ _ _ _ _ _ _) ?_)
 generalize Y1.setRow (w.heap.size + 1) (sAq st1 (.slice qa st1.ps.length qc)) = Y at *;have HMG : Hid (∀ Z,Below Y.heap.size Y Z → Calls qP 11 #[.slice va es.length vc] Z fun e w' => ∃ pa pc fs,e = .returned (.slice pa fs.length pc) ∧ (∀ f,f ∈ fs → Xf f) ∧ Yz w' (.slice pa fs.length pc) fs ∧ fs.length ≤ 10000 ∧ EqR (Qu fs) (Qu (es.map Q9)) ∧ Below Z.heap.size Z w') := fun Z hZ => qj8 es va vc Z (KE.out.next hZ) HEB.out hen
 have HSTEP : Hid (∀ Z,Below Y.heap.size Y Z → ∀ fid caps fs,Jm Z fid caps (Qu fs) → Calls qP fid (#[.agg (scS s ca cc ta tc ga gc)] ++ caps) Z (Made w0 Z (Qu fs n hh s) 0)) := fun Z hZ fid caps fs h => h.runs w0 Z s _ _ _ n hh (qr _ _) (HM.out Z (KB.out.trans (hZ.mono KB.out.size))) HR.out
 have ky : Below Y.heap.size Y Y.drew := (qr _ _).drew;clear HM KE HEB HZ1;go_cut [11] from 31 to 38 (fun s11 wx => s11 = .int .i64 0 ∧ ∃ (a1 : Option Addr) (n1 c1 : Nat) (a2 : Option Addr) (n2 c2' : Nat) (a3 : Option Addr) (n3 c3 : Nat),wx.heap[w.heap.size]? = some (.cells (scrA (Qu (es.map Q9) n hh s) (.slice a1 n1 c1) (.slice a2 n2 c2') (.slice a3 n3 c3)) 32 (0,0)) ∧ wx.heap[w.heap.size + 1]? = some (.cells (sAq st1 (.slice qa st1.ps.length qc)) 35 (0,0)) ∧ wx.heap[w.heap.size + 1 + 1]? = some (.cells zA 32 (0,0)) ∧ wx.heap[w.heap.size + 1 + 1 + 1]? = some (.cells zSq 35 (0,0)) ∧ Qo wx 0 w.heap.size (Qu (es.map Q9) n hh s) (.slice a1 n1 c1) (.slice a2 n2 c2') (.slice a3 n3 c3) ∧ Below w.heap.size w wx ∧ wx.ownsRow N0 3 1 (.slice qa st1.ps.length qc) st1.ps.length (Prs.ints st1.ps))
 case first =>
  refine wp_region_noPanic ?_;refine wp_region_held_drew (S := fun _ => True) (by kernel_rfl) trivial (fun hHeld => ?_)
  generalize Y.drew = Z0 at *;refine Qq (i := 0) (v := ?_) rfl (by kernel_rfl) (by kernel_rfl) (by kernel_rfl) (fun _ _ _ h => h) (Or.inl ⟨by rfl,?_⟩) hHeld ?_
  rotate_left
  ·intro w' hSw
   go_simp
   (try with_reducible rfl)
  (try simp only [qx,qa,qb,qc])
  refine qm (rs := [1,3]) (by kernel_rfl) (by simp) ?_
  refine Qy rfl (fun K hK => ?_) <| Qy rfl (fun K hK => ?_) <| qt
  ·go_simp
   refine (HMG.out _ ky).mono ?_;rintro e Z1 ⟨ma,mc,fs,rfl,hkp,hsv,hfl,heq,b1⟩;have ky1 := ky.trans (b1.mono ky.size);clear ky;have ky := ky1;clear ky1;go_wp2_with fail;refine hK.out _ _ trivial (fun hHeld => ?_)
   clear hK K
   (try simp only [qx,qa,qb,qc])
   refine qm (rs := [2,3]) (by kernel_rfl) (by simp) ?_
   refine Qy rfl (fun K hK => ?_) <| Qy rfl (fun K hK => ?_) <| qt
   ·go_simp
    refine (qlq fs hkp ma mc _ (by omega)).mono ?_
    rintro e Z2 ⟨fid,caps,rfl,hkf,hst,b2⟩;have hsf := hst _ (Xg.refl _ _) (hsv.next b2);have ky1 := ky.trans (b2.mono ky.size);clear ky hst;have ky := ky1;clear ky1;go_wp2_with fail;refine hK.out _ _ trivial (fun hHeld => ?_)
    clear hK K
    (try simp only [qx,qa,qb,qc])
    refine qm (rs := [3]) (by kernel_rfl) (by simp) ?_
    refine Qy rfl (fun K hK => ?_) <| qt
    ·rw [if_pos (by rfl)]
     refine wp_load_row 32 (.tmp 3) rfl w.heap.size rfl _ _ _ _ (Grd.carry KY0.out ky) qu rfl (by kernel_rfl) ?_
     refine hK.out _ _ trivial (fun hHeld => ?_)
     clear hK K
     (try simp only [qx,qa,qb,qc])
     refine qm (rs := [4]) (by kernel_rfl) (by simp) ?_
     refine Qy rfl (fun K hK => ?_) <| qt
     ·have hpl := hsf.plain
      unfold Plain at hpl;have HC := HSTEP.out _ ky fid caps fs hsf;go_simp;refine HC.mono ?_;rintro e V ⟨cv',tv',gv',rfl,hO,b3⟩;obtain ⟨a1,n1,c1,a2,n2,c2',a3,n3,c3,rfl,rfl,rfl⟩ := hO.shapes;have hsz := ky.size;have ky1 := ky.trans (b3.mono ky.size);clear ky HC b3;have ky := ky1;clear ky1 hpl;go_wp2_with fail;refine hK.out _ _ trivial (fun hHeld => ?_)
      clear hK K
      (try simp only [qx,qa,qb,qc])
      refine Qq (i := 5) (v := ?_) rfl (by kernel_rfl) (by kernel_rfl) (by kernel_rfl) (fun _ _ _ h => h) (Or.inl ⟨by rfl,?_⟩) hHeld ?_
      rotate_left
      ·intro w' hSw
       go_simp
       (try with_reducible rfl)
      (try simp only [qx,qa,qb,qc])
      refine Qq (i := 6) (v := ?_) rfl (by kernel_rfl) (by kernel_rfl) (by kernel_rfl) (fun _ _ _ h => h) (Or.inl ⟨by rfl,?_⟩) hHeld ?_
      rotate_left
      ·intro w' hSw
       go_simp
       (try with_reducible rfl)
      (try simp only [qx,qa,qb,qc])
      refine Qq (i := 7) (v := ?_) rfl (by kernel_rfl) (by kernel_rfl) (by kernel_rfl) (fun _ _ _ h => h) (Or.inl ⟨by rfl,?_⟩) hHeld ?_
      rotate_left
      ·intro w' hSw
       go_simp
       (try with_reducible rfl)
      (try simp only [qx,qa,qb,qc])
      refine qm (rs := [8]) (by kernel_rfl) (by simp) ?_
      refine Qy rfl (fun K hK => ?_) <| qt
      ·rw [if_pos (by rfl)]
       refine wp_store_row 32 (.tmp 3) (.tmp 37) rfl w.heap.size (scrA (Qu fs n hh s) (.slice a1 n1 c1) (.slice a2 n2 c2') (.slice a3 n3 c3)) rfl rfl _ _ (Grd.carry KY0.out ky) (by kernel_rfl) rfl (Qm _ _ _ _ _ _ _ _ _ _) ?_
       refine hK.out _ _ trivial (fun hHeld => ?_)
       clear hK K
       (try simp only [qx,qa,qb,qc])
       refine Qq (i := 9) (v := ?_) rfl (by kernel_rfl) (by kernel_rfl) (by kernel_rfl) (fun _ _ _ h => h) (Or.inl ⟨by rfl,?_⟩) hHeld ?_
       rotate_left
       ·intro w' hSw
        go_simp
        (try with_reducible rfl)
       (try simp only [qx,qa,qb,qc])
       refine wpAnyH_done (by kernel_rfl) ?_ _
       refine NoPanic.normal ?_;have HFQ := heq s n hh HR.out;rw [HFQ] at hO;simp only [HFQ];go_wp2_with fail;go_meet;exact ⟨rfl,a1,n1,c1,a2,n2,c2',a3,n3,c3,qj _ _ _ _ _ _ (Grd.carry KY0.out ky),(qg _ _ _ _ (by omega)).trans (Grd.carry KY1.out ky),(qg _ _ _ _ (by omega)).trans (Grd.carry KY2.out ky),(qg _ _ _ _ (by omega)).trans (Grd.carry KY3.out ky),(Qo.off hO (Grd.carry KY0.out ky) Ql (Nat.zero_le _) fun k hk => qg V w.heap.size k (scrA (Qu (es.map Q9) n hh s) (.slice a1 n1 c1) (.slice a2 n2 c2') (.slice a3 n3 c3)) hk).mono (Nat.le_trans KB.out.size hsz),qi (KB.out.trans (ky.mono KB.out.size)) (qd _) (scrA (Qu (es.map Q9) n hh s) (.slice a1 n1 c1) (.slice a2 n2 c2') (.slice a3 n3 c3)),Uj (Grd.ownsRow_below KI.out ky) (Fs V w.heap.size N0 (scrA (Qu (es.map Q9) n hh s) (.slice a1 n1 c1) (.slice a2 n2 c2') (.slice a3 n3 c3)) (by omega))⟩
   ·rw [if_pos (by rfl)]
    refine wp_load_row 32 (.tmp 3) rfl w.heap.size rfl _ _ _ _ (Grd.carry KY0.out ky) qu rfl (by kernel_rfl) ?_
    refine hK.out _ _ trivial (fun hHeld => ?_)
    clear hK K
    (try simp only [qx,qa,qb,qc])
    refine qm (rs := [2]) (by kernel_rfl) (by simp) ?_
    refine Qy rfl (fun K hK => ?_) <| qt
    ·go_simp
     refine (qlq fs hkp ma mc _ (by omega)).mono ?_
     rintro e Z2 ⟨fid,caps,rfl,hkf,hst,b2⟩;have hsf := hst _ (Xg.refl _ _) (hsv.next b2);have ky1 := ky.trans (b2.mono ky.size);clear ky hst;have ky := ky1;clear ky1;go_wp2_with fail;refine hK.out _ _ trivial (fun hHeld => ?_)
     clear hK K
     (try simp only [qx,qa,qb,qc])
     refine qm (rs := [4]) (by kernel_rfl) (by simp) ?_
     refine Qy rfl (fun K hK => ?_) <| qt
     ·have hpl := hsf.plain
      unfold Plain at hpl;have HC := HSTEP.out _ ky fid caps fs hsf;go_simp;refine HC.mono ?_;rintro e V ⟨cv',tv',gv',rfl,hO,b3⟩;obtain ⟨a1,n1,c1,a2,n2,c2',a3,n3,c3,rfl,rfl,rfl⟩ := hO.shapes;have hsz := ky.size;have ky1 := ky.trans (b3.mono ky.size);clear ky HC b3;have ky := ky1;clear ky1 hpl;go_wp2_with fail;refine hK.out _ _ trivial (fun hHeld => ?_)
      clear hK K
      (try simp only [qx,qa,qb,qc])
      refine Qq (i := 5) (v := ?_) rfl (by kernel_rfl) (by kernel_rfl) (by kernel_rfl) (fun _ _ _ h => h) (Or.inl ⟨by rfl,?_⟩) hHeld ?_
      rotate_left
      ·intro w' hSw
       go_simp
       (try with_reducible rfl)
      (try simp only [qx,qa,qb,qc])
      refine Qq (i := 6) (v := ?_) rfl (by kernel_rfl) (by kernel_rfl) (by kernel_rfl) (fun _ _ _ h => h) (Or.inl ⟨by rfl,?_⟩) hHeld ?_
      rotate_left
      ·intro w' hSw
       go_simp
       (try with_reducible rfl)
      (try simp only [qx,qa,qb,qc])
      refine Qq (i := 7) (v := ?_) rfl (by kernel_rfl) (by kernel_rfl) (by kernel_rfl) (fun _ _ _ h => h) (Or.inl ⟨by rfl,?_⟩) hHeld ?_
      rotate_left
      ·intro w' hSw
       go_simp
       (try with_reducible rfl)
      (try simp only [qx,qa,qb,qc])
      refine qm (rs := [8]) (by kernel_rfl) (by simp) ?_
      refine Qy rfl (fun K hK => ?_) <| qt
      ·rw [if_pos (by rfl)]
       refine wp_store_row 32 (.tmp 3) (.tmp 37) rfl w.heap.size (scrA (Qu fs n hh s) (.slice a1 n1 c1) (.slice a2 n2 c2') (.slice a3 n3 c3)) rfl rfl _ _ (Grd.carry KY0.out ky) (by kernel_rfl) rfl (Qm _ _ _ _ _ _ _ _ _ _) ?_
       refine hK.out _ _ trivial (fun hHeld => ?_)
       clear hK K
       (try simp only [qx,qa,qb,qc])
       refine Qq (i := 9) (v := ?_) rfl (by kernel_rfl) (by kernel_rfl) (by kernel_rfl) (fun _ _ _ h => h) (Or.inl ⟨by rfl,?_⟩) hHeld ?_
       rotate_left
       ·intro w' hSw
        go_simp
        (try with_reducible rfl)
       (try simp only [qx,qa,qb,qc])
       refine wpAnyH_done (by kernel_rfl) ?_ _
       refine NoPanic.normal ?_;have HFQ := heq s n hh HR.out;rw [HFQ] at hO;simp only [HFQ];go_wp2_with fail;go_meet;exact ⟨rfl,a1,n1,c1,a2,n2,c2',a3,n3,c3,qj _ _ _ _ _ _ (Grd.carry KY0.out ky),(qg _ _ _ _ (by omega)).trans (Grd.carry KY1.out ky),(qg _ _ _ _ (by omega)).trans (Grd.carry KY2.out ky),(qg _ _ _ _ (by omega)).trans (Grd.carry KY3.out ky),(Qo.off hO (Grd.carry KY0.out ky) Ql (Nat.zero_le _) fun k hk => qg V w.heap.size k (scrA (Qu (es.map Q9) n hh s) (.slice a1 n1 c1) (.slice a2 n2 c2') (.slice a3 n3 c3)) hk).mono (Nat.le_trans KB.out.size hsz),qi (KB.out.trans (ky.mono KB.out.size)) (qd _) (scrA (Qu (es.map Q9) n hh s) (.slice a1 n1 c1) (.slice a2 n2 c2') (.slice a3 n3 c3)),Uj (Grd.ownsRow_below KI.out ky) (Fs V w.heap.size N0 (scrA (Qu (es.map Q9) n hh s) (.slice a1 n1 c1) (.slice a2 n2 c2') (.slice a3 n3 c3)) (by omega))⟩
  ·rw [if_pos (by rfl)]
   refine wp_load_row 32 (.tmp 3) rfl w.heap.size rfl _ _ _ _ (Grd.carry KY0.out ky) qu rfl (by kernel_rfl) ?_
   refine hK.out _ _ trivial (fun hHeld => ?_)
   clear hK K
   (try simp only [qx,qa,qb,qc])
   refine qm (rs := [1]) (by kernel_rfl) (by simp) ?_
   refine Qy rfl (fun K hK => ?_) <| qt
   ·go_simp
    refine (HMG.out _ ky).mono ?_;rintro e Z1 ⟨ma,mc,fs,rfl,hkp,hsv,hfl,heq,b1⟩;have ky1 := ky.trans (b1.mono ky.size);clear ky;have ky := ky1;clear ky1;go_wp2_with fail;refine hK.out _ _ trivial (fun hHeld => ?_)
    clear hK K
    (try simp only [qx,qa,qb,qc])
    refine qm (rs := [2]) (by kernel_rfl) (by simp) ?_
    refine Qy rfl (fun K hK => ?_) <| qt
    ·go_simp
     refine (qlq fs hkp ma mc _ (by omega)).mono ?_
     rintro e Z2 ⟨fid,caps,rfl,hkf,hst,b2⟩;have hsf := hst _ (Xg.refl _ _) (hsv.next b2);have ky1 := ky.trans (b2.mono ky.size);clear ky hst;have ky := ky1;clear ky1;go_wp2_with fail;refine hK.out _ _ trivial (fun hHeld => ?_)
     clear hK K
     (try simp only [qx,qa,qb,qc])
     refine qm (rs := [4]) (by kernel_rfl) (by simp) ?_
     refine Qy rfl (fun K hK => ?_) <| qt
     ·have hpl := hsf.plain
      unfold Plain at hpl;have HC := HSTEP.out _ ky fid caps fs hsf;go_simp;refine HC.mono ?_;rintro e V ⟨cv',tv',gv',rfl,hO,b3⟩;obtain ⟨a1,n1,c1,a2,n2,c2',a3,n3,c3,rfl,rfl,rfl⟩ := hO.shapes;have hsz := ky.size;have ky1 := ky.trans (b3.mono ky.size);clear ky HC b3;have ky := ky1;clear ky1 hpl;go_wp2_with fail;refine hK.out _ _ trivial (fun hHeld => ?_)
      clear hK K
      (try simp only [qx,qa,qb,qc])
      refine Qq (i := 5) (v := ?_) rfl (by kernel_rfl) (by kernel_rfl) (by kernel_rfl) (fun _ _ _ h => h) (Or.inl ⟨by rfl,?_⟩) hHeld ?_
      rotate_left
      ·intro w' hSw
       go_simp
       (try with_reducible rfl)
      (try simp only [qx,qa,qb,qc])
      refine Qq (i := 6) (v := ?_) rfl (by kernel_rfl) (by kernel_rfl) (by kernel_rfl) (fun _ _ _ h => h) (Or.inl ⟨by rfl,?_⟩) hHeld ?_
      rotate_left
      ·intro w' hSw
       go_simp
       (try with_reducible rfl)
      (try simp only [qx,qa,qb,qc])
      refine Qq (i := 7) (v := ?_) rfl (by kernel_rfl) (by kernel_rfl) (by kernel_rfl) (fun _ _ _ h => h) (Or.inl ⟨by rfl,?_⟩) hHeld ?_
      rotate_left
      ·intro w' hSw
       go_simp
       (try with_reducible rfl)
      (try simp only [qx,qa,qb,qc])
      refine qm (rs := [8]) (by kernel_rfl) (by simp) ?_
      refine Qy rfl (fun K hK => ?_) <| qt
      ·rw [if_pos (by rfl)]
       refine wp_store_row 32 (.tmp 3) (.tmp 37) rfl w.heap.size (scrA (Qu fs n hh s) (.slice a1 n1 c1) (.slice a2 n2 c2') (.slice a3 n3 c3)) rfl rfl _ _ (Grd.carry KY0.out ky) (by kernel_rfl) rfl (Qm _ _ _ _ _ _ _ _ _ _) ?_
       refine hK.out _ _ trivial (fun hHeld => ?_)
       clear hK K
       (try simp only [qx,qa,qb,qc])
       refine Qq (i := 9) (v := ?_) rfl (by kernel_rfl) (by kernel_rfl) (by kernel_rfl) (fun _ _ _ h => h) (Or.inl ⟨by rfl,?_⟩) hHeld ?_
       rotate_left
       ·intro w' hSw
        go_simp
        (try with_reducible rfl)
       (try simp only [qx,qa,qb,qc])
       refine wpAnyH_done (by kernel_rfl) ?_ _
       refine NoPanic.normal ?_;have HFQ := heq s n hh HR.out;rw [HFQ] at hO;simp only [HFQ];go_wp2_with fail;go_meet;exact ⟨rfl,a1,n1,c1,a2,n2,c2',a3,n3,c3,qj _ _ _ _ _ _ (Grd.carry KY0.out ky),(qg _ _ _ _ (by omega)).trans (Grd.carry KY1.out ky),(qg _ _ _ _ (by omega)).trans (Grd.carry KY2.out ky),(qg _ _ _ _ (by omega)).trans (Grd.carry KY3.out ky),(Qo.off hO (Grd.carry KY0.out ky) Ql (Nat.zero_le _) fun k hk => qg V w.heap.size k (scrA (Qu (es.map Q9) n hh s) (.slice a1 n1 c1) (.slice a2 n2 c2') (.slice a3 n3 c3)) hk).mono (Nat.le_trans KB.out.size hsz),qi (KB.out.trans (ky.mono KB.out.size)) (qd _) (scrA (Qu (es.map Q9) n hh s) (.slice a1 n1 c1) (.slice a2 n2 c2') (.slice a3 n3 c3)),Uj (Grd.ownsRow_below KI.out ky) (Fs V w.heap.size N0 (scrA (Qu (es.map Q9) n hh s) (.slice a1 n1 c1) (.slice a2 n2 c2') (.slice a3 n3 c3)) (by omega))⟩
 case rest =>
  obtain ⟨rfl,a1,n1,c1,a2,n2,c2',a3,n3,c3,hq0,hq1,hq2,hq3,hOq,hBq,hIq⟩ := hcut;have HQ0 : Hid _ := hq0;have HQ1 : Hid _ := hq1;have HQ2 : Hid _ := hq2;have HQ3 : Hid _ := hq3;have HOQ : Hid (Qo _ 0 _ _ _ _ _) := hOq;have HBQ : Hid (Below w.heap.size w _) := hBq;have HIQ : Hid _ := hIq;clear hq0 hq1 hq2 hq3 hOq hBq hIq ky KY0 KY1 KY2 KY3 KB KI HMG HSTEP;generalize hV2 : wc = V2 at *;clear hV2;go_upto_region 8 with fail
  refine wp_region_held_drew (S := fun w' => w'.heap[w.heap.size]? = some (.cells (scrA (Qu (es.map Q9) n hh s) (.slice a1 n1 c1) (.slice a2 n2 c2') (.slice a3 n3 c3)) 32 (0,0)) ∧ w'.heap[w.heap.size + 1]? = some (.cells (sAq st1 (.slice qa st1.ps.length qc)) 35 (0,0))) (by kernel_rfl) ⟨HQ0.out,HQ1.out⟩ (fun hHeld => ?_)
  refine Qq (i := 0) (v := .agg (scrA (Qu (es.map Q9) n hh s) (.slice a1 n1 c1) (.slice a2 n2 c2') (.slice a3 n3 c3))) rfl (by kernel_rfl) (by kernel_rfl) (by kernel_rfl) (fun _ _ _ h => h) (Or.inl ⟨by rfl,?_⟩) hHeld ?_
  ·intro w' hSw
   refine (Xp _ _ _ _ _ _ _ w' ?_).trans ?_
   ·exact (Qs hSw.1).1
   ·exact congrArg (fun z => Result.ok (Next.value (.agg z)) w') (Qs hSw.1).2
  (try simp only [qx,qa,qb,qc])
  refine Qq (i := 1) (v := ?_) rfl (by kernel_rfl) (by kernel_rfl) (by kernel_rfl) (fun _ _ _ h => h) (Or.inl ⟨by rfl,?_⟩) hHeld ?_
  rotate_left
  ·intro w' hSw
   obtain ⟨g0,g1,g2,g3,g4,g5,g6,gf⟩ := Prs.Z8 hSw.2;go_simp
   (try with_reducible rfl)
  (try simp only [qx,qa,qb,qc])
  refine Qq (i := 2) (v := ?_) rfl (by kernel_rfl) (by kernel_rfl) (by kernel_rfl) (fun _ _ _ h => h) (Or.inl ⟨by rfl,?_⟩) hHeld ?_
  rotate_left
  ·intro w' hSw
   go_simp
   (try with_reducible rfl)
  (try simp only [qx,qa,qb,qc])
  refine qm (rs := [3]) (by kernel_rfl) (by simp) ?_
  refine Qy rfl (fun K hK => ?_) <| qt
  ·rw [if_pos (by rfl)]
   refine wp_store_row 32 (.tmp 6) (.tmp 39) rfl (w.heap.size + 1 + 1) (scrA (Qu (es.map Q9) n hh s) (.slice a1 n1 c1) (.slice a2 n2 c2') (.slice a3 n3 c3)) rfl rfl _ _ (show V2.drew.heap[w.heap.size + 1 + 1]? = _ from HQ2.out) (by kernel_rfl) rfl (Qm _ _ _ _ _ _ _ _ _ _) ?_
   refine hK.out _ _ ⟨(qg _ _ _ _ (by omega)).trans HQ0.out,(qg _ _ _ _ (by omega)).trans HQ1.out⟩ (fun hHeld => ?_)
   clear hK K
   (try simp only [qx,qa,qb,qc])
   refine qm (rs := [4]) (by kernel_rfl) (by simp) ?_
   refine Qy rfl (fun K hK => ?_) <| qt
   ·rw [if_pos (by rfl)]
    have hz3 : (V2.drew.setRow (w.heap.size + 1 + 1) (scrA (Qu (es.map Q9) n hh s) (.slice a1 n1 c1) (.slice a2 n2 c2') (.slice a3 n3 c3))).heap[w.heap.size + 1 + 1 + 1]? = _ := (qg _ _ _ _ (by omega)).trans HQ3.out
    have hz2 : (V2.drew.setRow (w.heap.size + 1 + 1) (scrA (Qu (es.map Q9) n hh s) (.slice a1 n1 c1) (.slice a2 n2 c2') (.slice a3 n3 c3))).heap[w.heap.size + 1 + 1]? = some (.cells (scrA (Qu (es.map Q9) n hh s) (.slice a1 n1 c1) (.slice a2 n2 c2') (.slice a3 n3 c3)) 32 (0,0)) := qj _ _ _ _ _ _ (show V2.drew.heap[w.heap.size + 1 + 1]? = _ from HQ2.out)
    have hy0 : (V2.drew.setRow (w.heap.size + 1 + 1) (scrA (Qu (es.map Q9) n hh s) (.slice a1 n1 c1) (.slice a2 n2 c2') (.slice a3 n3 c3))).heap[w.heap.size]? = _ := (qg _ _ _ _ (by omega)).trans HQ0.out
    have hy1 : (V2.drew.setRow (w.heap.size + 1 + 1) (scrA (Qu (es.map Q9) n hh s) (.slice a1 n1 c1) (.slice a2 n2 c2') (.slice a3 n3 c3))).heap[w.heap.size + 1]? = _ := (qg _ _ _ _ (by omega)).trans HQ1.out
    refine wp_store_row 35 (.tmp 7) (.tmp 40) rfl (w.heap.size + 1 + 1 + 1) (sAq st1 (.slice qa st1.ps.length qc)) rfl rfl _ _ hz3 (by kernel_rfl) rfl (qhq _ _ _ _ _ _ _ _ _) ?_
    refine hK.out _ _ ⟨(qg _ _ _ _ (by omega)).trans hy0,(qg _ _ _ _ (by omega)).trans hy1⟩ (fun hHeld => ?_)
    clear hK K
    (try simp only [qx,qa,qb,qc])
    refine Qq (i := 5) (v := ?_) rfl (by kernel_rfl) (by kernel_rfl) (by kernel_rfl) (fun _ _ _ h => h) (Or.inl ⟨by rfl,?_⟩) hHeld ?_
    rotate_left
    ·intro w' hSw
     go_simp
     (try with_reducible rfl)
    (try simp only [qx,qa,qb,qc])
    refine wpAnyH_done (by kernel_rfl) ?_ _
    have HO2 : Hid _ := Qo.off (HOQ.out.next (qr _ _).drew) (show V2.drew.heap[w.heap.size + 1 + 1]? = _ from HQ2.out) Ql (Nat.zero_le _) fun k hk => qg V2.drew (w.heap.size + 1 + 1) k (scrA (Qu (es.map Q9) n hh s) (.slice a1 n1 c1) (.slice a2 n2 c2') (.slice a3 n3 c3)) hk
    have HO3 : Hid _ := Qo.off HO2.out hz3 ql3 (Nat.zero_le _) fun k hk => qg (V2.drew.setRow (w.heap.size + 1 + 1) (scrA (Qu (es.map Q9) n hh s) (.slice a1 n1 c1) (.slice a2 n2 c2') (.slice a3 n3 c3))) (w.heap.size + 1 + 1 + 1) k (sAq st1 (.slice qa st1.ps.length qc)) hk
    have HB3 : Hid (Below w.heap.size w ((V2.drew.setRow (w.heap.size + 1 + 1) (scrA (Qu (es.map Q9) n hh s) (.slice a1 n1 c1) (.slice a2 n2 c2') (.slice a3 n3 c3))).setRow (w.heap.size + 1 + 1 + 1) (sAq st1 (.slice qa st1.ps.length qc)))) := qi (qi HBQ.out.drew (show w.heap.size ≤ w.heap.size + 1 + 1 by omega) (scrA (Qu (es.map Q9) n hh s) (.slice a1 n1 c1) (.slice a2 n2 c2') (.slice a3 n3 c3))) (show w.heap.size ≤ w.heap.size + 1 + 1 + 1 by omega) (sAq st1 (.slice qa st1.ps.length qc))
    have HI3 : Hid _ := Uj (Uj (Grd.ownsRow_below HIQ.out (qr _ _).drew) (Fs V2.drew (w.heap.size + 1 + 1) N0 (scrA (Qu (es.map Q9) n hh s) (.slice a1 n1 c1) (.slice a2 n2 c2') (.slice a3 n3 c3)) (by omega))) (Fs (V2.drew.setRow (w.heap.size + 1 + 1) (scrA (Qu (es.map Q9) n hh s) (.slice a1 n1 c1) (.slice a2 n2 c2') (.slice a3 n3 c3))) (w.heap.size + 1 + 1 + 1) N0 (sAq st1 (.slice qa st1.ps.length qc)) (by omega))
    have HZ2 : Hid _ := hz2;have HZ3 : Hid _ := hz3;clear hz2 hz3 hy0 hy1;go_wp2_with fail
    (try simp only [Exit.inBlock,Exit.then])
    refine bodyPost_ret (v := .tuple #[.agg (scrA (Qu (es.map Q9) n hh s) (.slice a1 n1 c1) (.slice a2 n2 c2') (.slice a3 n3 c3)),.agg (sAq st1 (.slice qa st1.ps.length qc)),.int .i64 0]) ?_ rfl ⟨_,_,_,_,rfl,HO3.out,Grd.Q4 HI3.out (by omega),HB3.out⟩
    exact V5 rfl _ _ (w.heap.size + 1 + 1) (w.heap.size + 1 + 1 + 1) _ _ _ _ _ _ _ _ rfl ((qg _ _ _ _ (by omega)).trans HZ2.out) rfl (qj _ _ _ _ _ _ HZ3.out) qu rfl (by kernel_rfl) Tryz.underlying35 rfl (by kernel_rfl) _ rfl
theorem qty {w : World} {s : Scr} {cv tv gv : Value} (hT : Txt.Tab w) (hV : Zh w s cv tv gv) (hF : Fits s) (hz : Qj s ≠ 0) (st : Prs.St) (pa : Option Addr) (pc : Nat) (b : ByteArray) : Calls qP 4 #[.agg (scrA s cv tv gv),.agg (sAq st (.slice pa st.ps.length pc)),.string b] w fun e W => e = .returned (.tuple #[.agg (scT zScr none 0 0 none 0 0 none 0 0),.agg zSq,.int .i64 (Qj s)]) ∧ Below w.heap.size w W := by
 obtain ⟨ca,cc,rfl⟩ := hV.c.shape;obtain ⟨ta,tc,rfl⟩ := hV.t.slice;obtain ⟨ga,gc,rfl⟩ := hV.g.slice;have k1 : Below w.heap.size w (w.alloc (.cells (scS s ca cc ta tc ga gc) 32)) := (qr _ _).alloc (qd _) _;have hkb : Below w.heap.size w ((((w.alloc (.cells (scS s ca cc ta tc ga gc) 32)).alloc (.cells (sAq st (.slice pa st.ps.length pc)) 35)).alloc (.cells zA 32)).alloc (.cells zSq 35)) := (((k1.alloc k1.size _).alloc (by first | (simp;done) | (simp;omega)) _).alloc (by first | (simp;done) | (simp;omega)) _)
 have hx0 : ((((w.alloc (.cells (scS s ca cc ta tc ga gc) 32)).alloc (.cells (sAq st (.slice pa st.ps.length pc)) 35)).alloc (.cells zA 32)).alloc (.cells zSq 35)).heap[w.heap.size]? = some (.cells (scS s ca cc ta tc ga gc) 32 (0,0)) := (qs _ _ _ (by first | (simp;done) | (simp;omega))).trans ((qs _ _ _ (by first | (simp;done) | (simp;omega))).trans ((qs _ _ _ (by first | (simp;done) | (simp;omega))).trans (qf w _)))
 have e1 : (w.alloc (.cells (scS s ca cc ta tc ga gc) 32)).heap.size = w.heap.size + 1 := by simp
 have e2 : ((w.alloc (.cells (scS s ca cc ta tc ga gc) 32)).alloc (.cells (sAq st (.slice pa st.ps.length pc)) 35)).heap.size = w.heap.size + 1 + 1 := by simp
 have hx2 : ((((w.alloc (.cells (scS s ca cc ta tc ga gc) 32)).alloc (.cells (sAq st (.slice pa st.ps.length pc)) 35)).alloc (.cells zA 32)).alloc (.cells zSq 35)).heap[w.heap.size + 1 + 1]? = some (.cells zA 32 (0,0)) := (qs _ _ _ (by first | (simp;done) | (simp;omega))).trans (by rw [← e1];exact heap_alloc2_new (w.alloc (.cells (scS s ca cc ta tc ga gc) 32)) _ _)
 have hx3 : ((((w.alloc (.cells (scS s ca cc ta tc ga gc) 32)).alloc (.cells (sAq st (.slice pa st.ps.length pc)) 35)).alloc (.cells zA 32)).alloc (.cells zSq 35)).heap[w.heap.size + 1 + 1 + 1]? = some (.cells zSq 35 (0,0)) := by rw [← e2];exact heap_alloc2_new ((w.alloc (.cells (scS s ca cc ta tc ga gc) 32)).alloc (.cells (sAq st (.slice pa st.ps.length pc)) 35)) _ _
 have HX0 : Hid _ := hx0;have HX2 : Hid _ := hx2;have HX3 : Hid _ := hx3;have HKB : Hid _ := hkb;have HCK := Zt s _ _ _ _ (Grd.Tab.next hT hkb) (hV.next hkb) hF;have hz1 : (Qj s != 0) = true := by simp [hz]
 clear hkb hx0 hx2 hx3 k1 hT hV hF hz e1 e2;generalize Qj s = er at *;go_enter Tryz.func4,Tryz.ntmps4;go_upto_region 1 with fail
 generalize ((((w.alloc (.cells (scS s ca cc ta tc ga gc) 32)).alloc (.cells (sAq st (.slice pa st.ps.length pc)) 35)).alloc (.cells zA 32)).alloc (.cells zSq 35)) = X at *;go_wp2_with (refine wpList_load_row rfl 32 (.tmp 3) rfl w.heap.size rfl _ _ _ _ HX0.out qu rfl (by kernel_rfl) ?_)
 refine HCK.mono ?_;rintro e Y0 ⟨rfl,bY0⟩;have HY2 : Hid (Y0.heap[w.heap.size + 1 + 1]? = _) := Grd.carry HX2.out bY0;have HY3 : Hid ((Y0.setRow (w.heap.size + 1 + 1) (scT zScr none 0 0 none 0 0 none 0 0)).heap[w.heap.size + 1 + 1 + 1]? = _) := (qg _ _ _ _ (by omega)).trans (Grd.carry HX3.out bY0)
 have HBY : Hid (Below w.heap.size w Y0) := HKB.out.trans (bY0.mono HKB.out.size);clear HX0 HX2 HX3 HKB bY0 HCK;go_wp2_with (first | (refine qh rfl 32 (.tmp 6) (.tmp 16) rfl (w.heap.size + 1 + 1) (scT zScr none 0 0 none 0 0 none 0 0) rfl rfl _ _ HY2.out (by kernel_rfl) rfl (Qm _ _ _ _ _ _ _ _ _ _) ?_) | (refine qh rfl 35 (.tmp 7) (.tmp 17) rfl (w.heap.size + 1 + 1 + 1) zSq rfl rfl _ _ HY3.out (by kernel_rfl) rfl (qhq _ _ _ _ _ _ _ _ _) ?_))
 (try simp only [Exit.inBlock,Exit.then])
 refine bodyPost_ret (v := .tuple #[.agg (scT zScr none 0 0 none 0 0 none 0 0),.agg zSq,.int .i64 er]) ?_ rfl ⟨rfl,qi (qi HBY.out (show w.heap.size ≤ w.heap.size + 1 + 1 by omega) _) (show w.heap.size ≤ w.heap.size + 1 + 1 + 1 by omega) _⟩
 exact V5 rfl _ _ (w.heap.size + 1 + 1) (w.heap.size + 1 + 1 + 1) _ _ _ _ _ _ _ _ rfl ((qg _ _ _ _ (by omega)).trans (qj _ _ _ _ _ _ HY2.out)) rfl (qj _ _ _ _ _ _ HY3.out) qu rfl (by kernel_rfl) Tryz.underlying35 rfl (by kernel_rfl) _ rfl
theorem qqh {w : World} {s : Scr} {cv tv gv : Value} (hT : Txt.Tab w) (hV : Zh w s cv tv gv) (hF : Fits s) (hz : Qj s = 0) (st : Prs.St) (pa : Option Addr) (pc : Nat) (hI : Qv w (.slice pa st.ps.length pc) st.ps) (ho : Prs.okS st = true) (hTP : Prs.Tabs w) (hm : st.mid.size ≤ 1000) (htx : st.txt.size ≤ 1000) (b : ByteArray) (hb : 4000 < b.size) : Calls qP 4 #[.agg (scrA s cv tv gv),.agg (sAq st (.slice pa st.ps.length pc)),.string b] w fun e W => e = .returned (.tuple #[.agg (scT zScr none 0 0 none 0 0 none 0 0),.agg zSq,.int .i64 2]) ∧ Below w.heap.size w W := by
 obtain ⟨ca,cc,rfl⟩ := hV.c.shape;obtain ⟨ta,tc,rfl⟩ := hV.t.slice;obtain ⟨ga,gc,rfl⟩ := hV.g.slice;have k1 : Below w.heap.size w (w.alloc (.cells (scS s ca cc ta tc ga gc) 32)) := (qr _ _).alloc (qd _) _;have hkb : Below w.heap.size w ((((w.alloc (.cells (scS s ca cc ta tc ga gc) 32)).alloc (.cells (sAq st (.slice pa st.ps.length pc)) 35)).alloc (.cells zA 32)).alloc (.cells zSq 35)) := (((k1.alloc k1.size _).alloc (by first | (simp;done) | (simp;omega)) _).alloc (by first | (simp;done) | (simp;omega)) _)
 have hx0 : ((((w.alloc (.cells (scS s ca cc ta tc ga gc) 32)).alloc (.cells (sAq st (.slice pa st.ps.length pc)) 35)).alloc (.cells zA 32)).alloc (.cells zSq 35)).heap[w.heap.size]? = some (.cells (scS s ca cc ta tc ga gc) 32 (0,0)) := (qs _ _ _ (by first | (simp;done) | (simp;omega))).trans ((qs _ _ _ (by first | (simp;done) | (simp;omega))).trans ((qs _ _ _ (by first | (simp;done) | (simp;omega))).trans (qf w _)))
 have e1 : (w.alloc (.cells (scS s ca cc ta tc ga gc) 32)).heap.size = w.heap.size + 1 := by simp
 have e2 : ((w.alloc (.cells (scS s ca cc ta tc ga gc) 32)).alloc (.cells (sAq st (.slice pa st.ps.length pc)) 35)).heap.size = w.heap.size + 1 + 1 := by simp
 have hx2 : ((((w.alloc (.cells (scS s ca cc ta tc ga gc) 32)).alloc (.cells (sAq st (.slice pa st.ps.length pc)) 35)).alloc (.cells zA 32)).alloc (.cells zSq 35)).heap[w.heap.size + 1 + 1]? = some (.cells zA 32 (0,0)) := (qs _ _ _ (by first | (simp;done) | (simp;omega))).trans (by rw [← e1];exact heap_alloc2_new (w.alloc (.cells (scS s ca cc ta tc ga gc) 32)) _ _)
 have hx3 : ((((w.alloc (.cells (scS s ca cc ta tc ga gc) 32)).alloc (.cells (sAq st (.slice pa st.ps.length pc)) 35)).alloc (.cells zA 32)).alloc (.cells zSq 35)).heap[w.heap.size + 1 + 1 + 1]? = some (.cells zSq 35 (0,0)) := by rw [← e2];exact heap_alloc2_new ((w.alloc (.cells (scS s ca cc ta tc ga gc) 32)).alloc (.cells (sAq st (.slice pa st.ps.length pc)) 35)) _ _
 have HX0 : Hid _ := hx0;have HX2 : Hid _ := hx2;have HX3 : Hid _ := hx3;have HKB : Hid _ := hkb;have HCK := Zt s _ _ _ _ (Grd.Tab.next hT hkb) (hV.next hkb) hF;rw [hz] at HCK;have HFD : Hid (∀ X,Below w.heap.size w X → Calls qP 9 #[.agg (sAq st (.slice pa st.ps.length pc)),.string b] X fun e w' => e = .returned (.tuple #[Prs.zeroV,.slice none 0 0,.int .i64 2]) ∧ Below X.heap.size X w') := fun X hX => Prs.qw6 st _ b X (hTP.next hX) (hI.next hX) (by omega) (by omega) 2 (.inr ⟨ho,hb,rfl⟩)
 have hx1 : ((((w.alloc (.cells (scS s ca cc ta tc ga gc) 32)).alloc (.cells (sAq st (.slice pa st.ps.length pc)) 35)).alloc (.cells zA 32)).alloc (.cells zSq 35)).heap[w.heap.size + 1]? = some (.cells (sAq st (.slice pa st.ps.length pc)) 35 (0,0)) := (qs _ _ _ (by first | (simp;done) | (simp;omega))).trans ((qs _ _ _ (by first | (simp;done) | (simp;omega))).trans (heap_alloc2_new w _ _))
 have HX1 : Hid _ := hx1;clear hkb hx0 hx1 hx2 hx3 k1 hT hV hF hz e1 e2 hI ho hTP hm htx hb;go_enter Tryz.func4,Tryz.ntmps4;go_upto_region 1 with fail
 generalize ((((w.alloc (.cells (scS s ca cc ta tc ga gc) 32)).alloc (.cells (sAq st (.slice pa st.ps.length pc)) 35)).alloc (.cells zA 32)).alloc (.cells zSq 35)) = X at *;go_wp2_with (refine wpList_load_row rfl 32 (.tmp 3) rfl w.heap.size rfl _ _ _ _ HX0.out qu rfl (by kernel_rfl) ?_)
 refine HCK.mono ?_;rintro e Y0 ⟨rfl,bY0⟩;have HB0 : Hid (Below w.heap.size w Y0) := HKB.out.trans (bY0.mono HKB.out.size);have HY1 : Hid (Y0.heap[w.heap.size + 1]? = _) := Grd.carry HX1.out bY0;have HU2 : Hid (Y0.heap[w.heap.size + 1 + 1]? = _) := Grd.carry HX2.out bY0;have HU3 : Hid (Y0.heap[w.heap.size + 1 + 1 + 1]? = _) := Grd.carry HX3.out bY0;clear HX0 HX1 HX2 HX3 HKB bY0 HCK;obtain ⟨d0,d1,d2,d3,d4,d5,d6,df⟩ := Prs.Z8 HY1.out;unfold Prs.zeroV at HFD;go_wp2_with fail;refine (HFD.out Y0 HB0.out).mono ?_;rintro e Y1 ⟨rfl,bY1⟩;have HV1 : Hid (Y1.heap[w.heap.size + 1]? = _) := Grd.carry HY1.out bY1;have HY2 : Hid ((Y1.setRow (w.heap.size + 1) zSq).heap[w.heap.size + 1 + 1]? = _) := (qg _ _ _ _ (by omega)).trans (Grd.carry HU2.out bY1)
 have HY3 : Hid (((Y1.setRow (w.heap.size + 1) zSq).setRow (w.heap.size + 1 + 1) (scT zScr none 0 0 none 0 0 none 0 0)).heap[w.heap.size + 1 + 1 + 1]? = _) := (qg _ _ _ _ (by omega)).trans ((qg Y1 (w.heap.size + 1) (w.heap.size + 1 + 1 + 1) zSq (by omega)).trans (Grd.carry HU3.out bY1))
 have HBY : Hid (Below w.heap.size w (Y1.setRow (w.heap.size + 1) zSq)) := qi (HB0.out.trans (bY1.mono HB0.out.size)) (Nat.le_succ _) _;clear bY1 HY1 HU2 HU3 HB0 d0 d1 d2 d3 d4 d5 d6 df;go_upto_region 6 with (refine qh rfl 35 (.tmp 4) (.tmp 23) rfl (w.heap.size + 1) zSq rfl rfl _ _ HV1.out (by kernel_rfl) rfl (qhq _ _ _ _ _ _ _ _ _) ?_)
 generalize Y1.setRow (w.heap.size + 1) zSq = Y2 at *;go_wp2_with (first | (refine qh rfl 32 (.tmp 6) (.tmp 28) rfl (w.heap.size + 1 + 1) (scT zScr none 0 0 none 0 0 none 0 0) rfl rfl _ _ HY2.out (by kernel_rfl) rfl (Qm _ _ _ _ _ _ _ _ _ _) ?_) | (refine qh rfl 35 (.tmp 7) (.tmp 29) rfl (w.heap.size + 1 + 1 + 1) zSq rfl rfl _ _ HY3.out (by kernel_rfl) rfl (qhq _ _ _ _ _ _ _ _ _) ?_))
 (try simp only [Exit.inBlock,Exit.then])
 refine bodyPost_ret (v := .tuple #[.agg (scT zScr none 0 0 none 0 0 none 0 0),.agg zSq,.int .i64 2]) ?_ rfl ⟨rfl,qi (qi HBY.out (show w.heap.size ≤ w.heap.size + 1 + 1 by omega) _) (show w.heap.size ≤ w.heap.size + 1 + 1 + 1 by omega) _⟩
 exact V5 rfl _ _ (w.heap.size + 1 + 1) (w.heap.size + 1 + 1 + 1) _ _ _ _ _ _ _ _ rfl ((qg _ _ _ _ (by omega)).trans (qj _ _ _ _ _ _ HY2.out)) rfl (qj _ _ _ _ _ _ HY3.out) qu rfl (by kernel_rfl) Tryz.underlying35 rfl (by kernel_rfl) _ rfl
def stA (st : Prs.St) (p : Option Addr) (c : Nat) : Array Value := (sAq st (.slice p st.ps.length c))
theorem Yv (st : Prs.St) (p : Option Addr) (c : Nat) : (stA st p c).all (·.oneCell') = true := qhq _ _ _ _ _ _ _ _ _
theorem qx7 {w V : World} {A B : Array Value} (hB : Below w.heap.size w V) :
  ((V.alloc (.cells zA 32)).alloc (.cells zSq 35)).heap[V.heap.size]? = some (.cells zA 32 (0,0)) ∧ (((V.alloc (.cells zA 32)).alloc (.cells zSq 35)).setRow V.heap.size A).heap[V.heap.size + 1]? = some (.cells zSq 35 (0,0)) ∧ ((((V.alloc (.cells zA 32)).alloc (.cells zSq 35)).setRow V.heap.size A).setRow (V.heap.size + 1) B).heap[V.heap.size]? = some (.cells A 32 (0,0)) ∧ ((((V.alloc (.cells zA 32)).alloc (.cells zSq 35)).setRow V.heap.size A).setRow (V.heap.size + 1) B).heap[V.heap.size + 1]? = some (.cells B 35 (0,0)) ∧ Below V.heap.size V ((((V.alloc (.cells zA 32)).alloc (.cells zSq 35)).setRow V.heap.size A).setRow (V.heap.size + 1) B) ∧ Below w.heap.size w ((((V.alloc (.cells zA 32)).alloc (.cells zSq 35)).setRow V.heap.size A).setRow (V.heap.size + 1) B) := by
 have h0 : ((V.alloc (.cells zA 32)).alloc (.cells zSq 35)).heap[V.heap.size]? = some (.cells zA 32 (0,0)) := (qs _ _ _ (by first | (simp;done) | (simp;omega))).trans (qf V _)
 have h1 : ((V.alloc (.cells zA 32)).alloc (.cells zSq 35)).heap[V.heap.size + 1]? = some (.cells zSq 35 (0,0)) := heap_alloc2_new V _ _;have h2 : (((V.alloc (.cells zA 32)).alloc (.cells zSq 35)).setRow V.heap.size A).heap[V.heap.size + 1]? = some (.cells zSq 35 (0,0)) := (qg _ _ _ _ (by omega)).trans h1
 have hb : Below V.heap.size V ((((V.alloc (.cells zA 32)).alloc (.cells zSq 35)).setRow V.heap.size A).setRow (V.heap.size + 1) B) := qi (qi (((qr _ _).alloc (qd _) _).alloc (by first | (simp;done) | (simp;omega)) _) (qd _) _) (Nat.le_succ _) _
 exact ⟨h0,h2,(qg _ _ _ _ (by omega)).trans (qj _ _ _ _ _ _ h0),qj _ _ _ _ _ _ h2,hb,hB.trans (hb.mono hB.size)⟩
theorem okB : Prs.Ok (Prs.bare 0) := Prs.X5 0 (by omega) (by omega) (by omega)
theorem okSB : Prs.okS (Prs.bare 0) = true := (Prs.qrz _).2 okB
theorem qx4 (w : World) : Qv w (.slice none 0 0) (Prs.bare 0).ps := .inl ⟨rfl,_,_,rfl⟩
structure Tb (w : World) : Prop where
 t : Txt.Tab w
 l : Stl.Tab w
 p : Prs.Tabs w
theorem Tb.next {w W : World} (h : Tb w) (hb : Below w.heap.size w W) : Tb W := ⟨Grd.Tab.next h.t hb,h.l.below hb h.l.pos,h.p.next hb⟩
theorem qe2 {es : List Prs.Ev} (h : ∀ e,e ∈ es → Xf (Q9 e)) : Xf (Qu (es.map Q9)) := Jo fun f hf => by
 obtain ⟨e,he,rfl⟩ := List.mem_map.1 hf;exact h e he
theorem qpo (t : ByteArray) : Xf (qgn t) := fun _ _ _ h => qgx h t
theorem qkj (t : ByteArray) : Xf (Y8 t) := by
 unfold Y8;split
 ·exact Kq
 ·exact qpo _
theorem qdl {f g : Phi} (hf : Xf f) (hg : Xf g) : Xf (Qu [f,g]) := Jo fun z hz => by
 rcases List.mem_cons.1 hz with rfl | hz
 ·exact hf
 ·rw [List.mem_singleton.1 hz]
  exact hg
theorem qby (m : Int) (on : Bool) : ∀ (ps : List Int), ∀ f, f ∈ Xr m on ps → Xf f
 | [],f,hf => absurd hf List.not_mem_nil
 | k :: l,f,hf => by
  rw [Ug] at hf;split at hf
  ·exact qby m on l f hf
  ·rcases List.mem_cons.1 hf with rfl | hf
   ·exact qiv _ _ (qb1 m k).1 (qb1 m k).2
   ·exact qby m on l f hf
theorem qii (r : Int) : Xf (Yr r) := by
 unfold Yr
 repeat' split
 ·exact (qp6 1).keeps
 ·exact (qwk 1).keeps
 ·exact qdy.keeps
 ·exact Vv.keeps
 ·exact Kq
theorem qjv (r : Int) : Xf (Gt r) := by
 unfold Gt
 repeat' split
 ·exact qkz.keeps
 ·exact qj3.keeps
 ·exact qdy.keeps
 ·exact qdl Vv.keeps qdy.keeps
 ·exact qm4.keeps
 ·exact qwg.keeps
 ·exact qr5.keeps
 ·exact Kq
theorem qhu (f : Int) (ps : List Int) : Xf (Zz f ps) := by
 unfold Zz
 repeat' split
 ·exact qdl (qj2 _).keeps Vv.keeps
 ·exact qdl (ctUp _).keeps Vv.keeps
 ·exact (ctTo _ _).keeps
 ·exact fun _ _ _ h => qbt h _
 ·exact fun _ _ _ h => qjd h _ _
 ·exact qkz.keeps
 ·exact qj3.keeps
 ·exact Kq
theorem qia (e : Prs.Ev) : Xf (X0 e) := by
 unfold X0;split
 ·exact Jo (qby _ _ _)
 ·split
  ·exact Kq
  ·rcases qin e.fin (par e.ps 0 1) with ⟨-, v2⟩ | ⟨fid, f, -, v2, hct⟩
   ·rw [v2]
    rcases qir e.fin (par e.ps 0 0) with ⟨-,v3⟩ | ⟨fid,f,-,v3,hct⟩
    ·rw [v3]
     exact qhu _ _
    ·rw [v3]
     exact hct.keeps
   ·rw [v2]
    exact hct.keeps
theorem qxh (e : Prs.Ev) : Xf (Q9 e) := by
 unfold Q9
 repeat' split
 ·exact Uk _
 ·exact qii _
 ·exact qjv _
 ·exact qia _
 ·exact qkj _
 ·exact Kq
def Gx (es : List Prs.Ev) : Phi := Qu (es.map Q9)
theorem qip (es : List Prs.Ev) : Xf (Gx es) := qe2 fun e _ => qxh e
theorem qjo (a b : List Prs.Ev) (n hh : Nat) (s : Scr) : Gx (a ++ b) n hh s = Gx b n hh (Gx a n hh s) := by
 unfold Gx;rw [List.map_append,K9]
theorem qgw {w : World} {s : Scr} {cv tv gv : Value} {n hh : Nat} (hT : Tb w) (hV : Zh w s cv tv gv) (hR : Qg s n hh) (st : Prs.St) (pa : Option Addr) (pc : Nat) (hI : Qv w (.slice pa st.ps.length pc) st.ps) (ho : Prs.Ok st) (b : ByteArray) (hb : b.size ≤ 4000) : Calls qP 4 #[.agg (scrA s cv tv gv),.agg (stA st pa pc),.string b] w fun e W => ∃ cv' tv' gv' qa qc,e = .returned (.tuple #[.agg (scrA (Gx (Prs.feed st b.data.toList).2 n hh s) cv' tv' gv'),.agg (stA (Prs.feed st b.data.toList).1 qa qc),.int .i64 0]) ∧ Qo W 0 w.heap.size (Gx (Prs.feed st b.data.toList).2 n hh s) cv' tv' gv' ∧ W.ownsRow w.heap.size 3 1 (.slice qa (Prs.feed st b.data.toList).1.ps.length qc) (Prs.feed st b.data.toList).1.ps.length (Prs.ints (Prs.feed st b.data.toList).1.ps) ∧ Below w.heap.size w W := by
 refine (qtf (w0 := w) ⟨⟨hT.t,hV,qr _ _,hR.fits⟩,hT.l⟩ hR st _ hI ho b hb hT.p).mono ?_;rintro e W ⟨cv',tv',gv',pv',rfl,h1,h2,h3⟩;obtain ⟨qa,qc,rfl⟩ := Qz h2;exact ⟨cv',tv',gv',qa,qc,rfl,h1,h2,h3⟩
end Put
end Go.Proofs.YtooobiigijphkaaGreatDoor
