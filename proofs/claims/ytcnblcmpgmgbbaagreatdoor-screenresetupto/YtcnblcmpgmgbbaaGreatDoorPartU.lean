/- Parts of the proof, shortened by a program. -/
import Derived.Test.YtcnblcmpgmgbbaaGreatDoorPartT
import Derived.Test.YtcnblcmpgmgbbaaGreatDoorPartS
import Derived.Deep.Cut
import Derived.Test.YtcnblcmpgmgbbaaGreatDoorPartJ
import Derived.Test.YtcnblcmpgmgbbaaGreatDoorPartQ
import Derived.BigFrame
namespace Go.Proofs.YtcnblcmpgmgbbaaGreatDoor
set_option linter.unusedVariables false
set_option linter.unusedSimpArgs false
set_option maxRecDepth 100000
open Go.ChangeShapes Go.WideShapes Go.ChangeAt Go.RowKit
namespace Put
open Grd (C SliceAt Qb Qf z0 Qx flat Qe)
open Prs (Qz F5 EvAt EvsB stV)
theorem qda {P : Program} {fn : Func} {p q v : Tmp} {ty ty' : TypeId} (h : fn.results = #[.cell p ty, .cell q ty', .tmp v]) (tmps : Array Value) (w : World) (g g' : Nat) (t t' : TypeId) (cs cs' : Array Value) (fr fr' : Nat × Nat) (d d' : TypeDesc)
  (hp : tmps.getD p undef = .pointer (some ⟨g, 0, none⟩)) (hg : w.heap[g]? = some (.cells cs t fr)) (hq : tmps.getD q undef = .pointer (some ⟨g', 0, none⟩)) (hg' : w.heap[g']? = some (.cells cs' t' fr'))
  (hu : P.underlying ty = some d) (hd : (match d with | .struct _ | .array _ _ => true | _ => false) = true) (hi : (P.info? ty).map (·.size) = some cs.size)
  (hu' : P.underlying ty' = some d') (hd' : (match d' with | .struct _ | .array _ _ => true | _ => false) = true) (hi' : (P.info? ty').map (·.size) = some cs'.size) (x : Value) (hx : tmps.getD v undef = x) :
  (results fn tmps).run P w = .ok (.tuple #[.agg cs, .agg cs', x]) w := by
 have hp' : tmps[p]?.getD undef = .pointer (some ⟨g, 0, none⟩) := by simpa using hp
 have hq' : tmps[q]?.getD undef = .pointer (some ⟨g', 0, none⟩) := by simpa using hq
 have hx' : tmps[v]?.getD undef = x := by simpa using hx
 simp [results, h, hp', hq', hx', asAddr, run_loadVar_row w g t ty cs fr d hg hu hd hi, run_loadVar_row w g' t' ty' cs' fr' d' hg' hu' hd' hi']
theorem qs8 (s : Prs.St) (pv : Value) (b : ByteArray) (w : World) (hT : Prs.Tabs w) (hI : Qz w pv s.ps) (ho : Prs.Ok s) (hb : b.size ≤ 4000) :
  Calls Tryz.prog 11 #[stV s pv, .string b] w fun e w' => ∃ pv' tv', e = .returned (.tuple #[stV (Prs.feed s b.data.toList).1 pv', tv', .int .i64 0]) ∧ w'.ownsRow w.heap.size 3 1 pv' (Prs.feed s b.data.toList).1.ps.length (Prs.ints (Prs.feed s b.data.toList).1.ps) ∧ Prs.EvsV w' w.heap.size tv' (Prs.feed s b.data.toList).2 ∧ Below w.heap.size w w' := by
 refine Prs.q0g s pv b w hT hI ho.fit (by have := ho.ms; omega) (by have := ho.tl; omega) (by have := Prs.qgk ho.fl; omega) hb (fun W hW => ?_)
 refine (Prs.Xd s pv W (hT.next hW) (hI.next hW) (by have := ho.ms; omega) (by have := ho.tl; omega)).mono ?_
 rintro e W' ⟨rfl, b1⟩
 exact ⟨by rw [(Prs.q0c s).2 ho], b1⟩
theorem Ub {W W' : World} {base : Nat} {e : TypeId} {z : Nat} {v : Value} {n : Nat} {xs : List Value} (h : W.ownsRow base e z v n xs) (hk : ∀ g, base ≤ g → W'.heap[g]? = W.heap[g]?) : W'.ownsRow base e z v n xs := Zd h fun g hg => hk g (Qm h g hg).1
theorem qvq {W W' : World} {base : Nat} {v : Value} {es : List Prs.Ev} (h : Prs.EvsV W base v es) (hk : ∀ g, base ≤ g → W'.heap[g]? = W.heap[g]?) : Prs.EvsV W' base v es := by
 obtain ⟨eqs, h1, h2, h3⟩ := h
 exact ⟨eqs, Ub h1 hk, h2, fun x hx => Ub (h3 x hx) hk⟩
theorem Fh (W : World) (B base : Nat) (cs : Array Value) (hB : B < base) : ∀ g, base ≤ g → (W.setRow B cs).heap[g]? = W.heap[g]? := fun g hg => setRow_other _ _ _ _ (by omega)
theorem qvw : X9 35 := by unfold X9; decide
theorem qyh (a m : Int) (x y z : ByteArray) (p : Option Addr) (n c : Nat) (l : Bool) : (#[.int .i64 a, .int .u8 m, .string x, .slice p n c, .string y, .string z, .bool l] : Array Value).all (·.oneCell') = true := by simp [Value.oneCell']
def FedS (w : World) (s' : Scr) (st' : Prs.St) (e : Ending) (W : World) : Prop := ∃ cv' tv' gv' pv', e = .returned (.tuple #[.agg (scrA s' cv' tv' gv'), stV st' pv', .int .i64 0]) ∧ Qo W 0 w.heap.size s' cv' tv' gv' ∧ W.ownsRow w.heap.size 3 1 pv' st'.ps.length (Prs.ints st'.ps) ∧ Below w.heap.size w W
set_option maxHeartbeats 8000000 in
theorem qu9 {w0 w : World} {s : Scr} {cv tv gv : Value} {n hh : Nat} (hm : MetS w0 w s cv tv gv) (hR : Qg s n hh) (st : Prs.St) (pv : Value) (hI : Qz w pv st.ps) (ho : Prs.Ok st) (b : ByteArray) (hb : b.size ≤ 4000) (hT : Prs.Tabs w) : Calls Tryz.prog 5 #[.agg (scrA s cv tv gv), stV st pv, .string b] w (FedS w (Qt ((Prs.feed st b.data.toList).2.map Q5) n hh s) (Prs.feed st b.data.toList).1) := by
 obtain ⟨ca, cc, rfl⟩ := hm.m.v.c.shape
 obtain ⟨ta, tc, rfl⟩ := hm.m.v.t.slice
 obtain ⟨ga, gc, rfl⟩ := hm.m.v.g.slice
 obtain ⟨pa, pc, rfl⟩ := hI.slice
 show Calls Tryz.prog 5 #[.agg (scS s ca cc ta tc ga gc), .agg (sAq st (.slice pa st.ps.length pc)), .string b] w _
 have k1 : Below w.heap.size w (w.alloc (.cells (scS s ca cc ta tc ga gc) 32)) := (Below.refl _ _).alloc (Nat.le_refl _) _
 have hkb : Below w.heap.size w ((((w.alloc (.cells (scS s ca cc ta tc ga gc) 32)).alloc (.cells (sAq st (.slice pa st.ps.length pc)) 35)).alloc (.cells zA 32)).alloc (.cells zSq 35)) := (((k1.alloc k1.size _).alloc (by first | (simp; done) | (simp; omega)) _).alloc (by first | (simp; done) | (simp; omega)) _)
 have hsz : ((((w.alloc (.cells (scS s ca cc ta tc ga gc) 32)).alloc (.cells (sAq st (.slice pa st.ps.length pc)) 35)).alloc (.cells zA 32)).alloc (.cells zSq 35)).heap.size = w.heap.size + 1 + 1 + 1 + 1 := by simp
 have hx0 : ((((w.alloc (.cells (scS s ca cc ta tc ga gc) 32)).alloc (.cells (sAq st (.slice pa st.ps.length pc)) 35)).alloc (.cells zA 32)).alloc (.cells zSq 35)).heap[w.heap.size]? = some (.cells (scS s ca cc ta tc ga gc) 32 (0, 0)) := (Below.heap_alloc _ _ _ (by first | (simp; done) | (simp; omega))).trans ((Below.heap_alloc _ _ _ (by first | (simp; done) | (simp; omega))).trans ((Below.heap_alloc _ _ _ (by first | (simp; done) | (simp; omega))).trans (heap_alloc_new w _)))
 have hx1 : ((((w.alloc (.cells (scS s ca cc ta tc ga gc) 32)).alloc (.cells (sAq st (.slice pa st.ps.length pc)) 35)).alloc (.cells zA 32)).alloc (.cells zSq 35)).heap[w.heap.size + 1]? = some (.cells (sAq st (.slice pa st.ps.length pc)) 35 (0, 0)) := (Below.heap_alloc _ _ _ (by first | (simp; done) | (simp; omega))).trans ((Below.heap_alloc _ _ _ (by first | (simp; done) | (simp; omega))).trans (heap_alloc2_new w _ _))
 have e1 : (w.alloc (.cells (scS s ca cc ta tc ga gc) 32)).heap.size = w.heap.size + 1 := by simp
 have e2 : ((w.alloc (.cells (scS s ca cc ta tc ga gc) 32)).alloc (.cells (sAq st (.slice pa st.ps.length pc)) 35)).heap.size = w.heap.size + 1 + 1 := by simp
 have hx2 : ((((w.alloc (.cells (scS s ca cc ta tc ga gc) 32)).alloc (.cells (sAq st (.slice pa st.ps.length pc)) 35)).alloc (.cells zA 32)).alloc (.cells zSq 35)).heap[w.heap.size + 1 + 1]? = some (.cells zA 32 (0, 0)) := (Below.heap_alloc _ _ _ (by first | (simp; done) | (simp; omega))).trans (by rw [← e1]; exact heap_alloc2_new (w.alloc (.cells (scS s ca cc ta tc ga gc) 32)) _ _)
 have hx3 : ((((w.alloc (.cells (scS s ca cc ta tc ga gc) 32)).alloc (.cells (sAq st (.slice pa st.ps.length pc)) 35)).alloc (.cells zA 32)).alloc (.cells zSq 35)).heap[w.heap.size + 1 + 1 + 1]? = some (.cells zSq 35 (0, 0)) := by rw [← e2]; exact heap_alloc2_new ((w.alloc (.cells (scS s ca cc ta tc ga gc) 32)).alloc (.cells (sAq st (.slice pa st.ps.length pc)) 35)) _ _
 have HX0 : Hid _ := hx0
 have HX1 : Hid _ := hx1
 have HX2 : Hid _ := hx2
 have HX3 : Hid _ := hx3
 have HKB : Hid _ := hkb
 have HR : Hid (Qg s n hh) := hR
 have HM : Hid (∀ X, Below w.heap.size w X → MetS w0 X s (.slice ca s.cs.length cc) (.slice ta s.tabs.length tc) (.slice ga s.gone.length gc)) := fun X hX => hm.next hX
 have HCK := Zq s _ _ _ _ (Grd.Tab.next hm.m.t hkb) (hm.m.v.next (hm.m.b.trans (hkb.mono hm.m.b.size))) hm.m.f
 rw [Yn hR] at HCK
 have HFD : Hid (∀ X, Below w.heap.size w X → Calls Tryz.prog 11 #[.agg (sAq st (.slice pa st.ps.length pc)), .string b] X fun e w' => ∃ pv' tv', e = .returned (.tuple #[stV (Prs.feed st b.data.toList).1 pv', tv', .int .i64 0]) ∧ w'.ownsRow X.heap.size 3 1 pv' (Prs.feed st b.data.toList).1.ps.length (Prs.ints (Prs.feed st b.data.toList).1.ps) ∧ Prs.EvsV w' X.heap.size tv' (Prs.feed st b.data.toList).2 ∧ Below X.heap.size X w') := fun X hX => qs8 st _ b X (hT.next hX) (hI.next hX) ho hb
 have HEB : Hid (EvsB (Prs.feed st b.data.toList).2) := Prs.qs5 b.data.toList st ho
 have hlen := Prs.qwn b.data.toList st
 have hlb := Prs.qgk ho.fl
 have hlz : b.data.toList.length = b.size := by rw [Array.length_toList]; rfl
 have hen : (Prs.feed st b.data.toList).2.length ≤ 10000 := by omega
 clear hkb hx0 hx1 hx2 hx3 k1 hm hR hI ho hT hlen hlb hlz e1 e2
 obtain ⟨st1, es, hfe⟩ : ∃ st1 es, Prs.feed st b.data.toList = (st1, es) := ⟨_, _, rfl⟩
 rw [hfe] at HFD HEB hen ⊢
 simp only at HFD HEB hen ⊢
 clear hfe
 go_enter Tryz.func5, Tryz.ntmps5
 go_upto_region 1 with fail
 generalize ((((w.alloc (.cells (scS s ca cc ta tc ga gc) 32)).alloc (.cells (sAq st (.slice pa st.ps.length pc)) 35)).alloc (.cells zA 32)).alloc (.cells zSq 35)) = X at *
 obtain ⟨d0, d1, d2, d3, d4, d5, d6, df⟩ := Prs.Xv HX1.out
 go_wp2_with (refine wpList_load_row rfl 32 (.tmp 3) rfl w.heap.size rfl _ _ _ _ HX0.out Tryz.underlying32 rfl (by kernel_rfl) ?_)
 refine HCK.mono ?_
 rintro e Y0 ⟨rfl, bY0⟩
 have HY0 : Hid (Y0.heap[w.heap.size]? = _) := Grd.carry HX0.out bY0
 have HY1 : Hid (Y0.heap[w.heap.size + 1]? = _) := Grd.carry HX1.out bY0
 have HY2 : Hid (Y0.heap[w.heap.size + 1 + 1]? = _) := Grd.carry HX2.out bY0
 have HY3 : Hid (Y0.heap[w.heap.size + 1 + 1 + 1]? = _) := Grd.carry HX3.out bY0
 have HBY : Hid (Below w.heap.size w Y0) := HKB.out.trans (bY0.mono HKB.out.size)
 clear HX0 HX1 HX2 HX3 HKB bY0 HCK d0 d1 d2 d3 d4 d5 d6 df hsz
 obtain ⟨d0, d1, d2, d3, d4, d5, d6, df⟩ := Prs.Xv HY1.out
 go_wp2_with fail
 unfold stV at HFD
 refine (HFD.out Y0 HBY.out).mono ?_
 rintro e Y1 ⟨pv', tv', rfl, hI1, hE1, bY1⟩
 obtain ⟨qa, qc, rfl⟩ := Qw hI1
 obtain ⟨va, vc, rfl⟩ := hE1.read.slice
 have hY4 : w.heap.size + 1 + 1 + 1 < Y0.heap.size := Qc HY3.out
 have HZ1 : Hid (Y1.heap[w.heap.size + 1]? = _) := Grd.carry HY1.out bY1
 have KY0 : Hid ((Y1.setRow (w.heap.size + 1) (sAq st1 (.slice qa st1.ps.length qc))).heap[w.heap.size]? = _) := (setRow_other _ _ _ _ (by omega)).trans (Grd.carry HY0.out bY1)
 have KY1 : Hid ((Y1.setRow (w.heap.size + 1) (sAq st1 (.slice qa st1.ps.length qc))).heap[w.heap.size + 1]? = some (.cells (sAq st1 (.slice qa st1.ps.length qc)) 35 (0, 0))) := setRow_heap _ _ _ _ _ _ HZ1.out
 have KY2 : Hid ((Y1.setRow (w.heap.size + 1) (sAq st1 (.slice qa st1.ps.length qc))).heap[w.heap.size + 1 + 1]? = _) := (setRow_other _ _ _ _ (by omega)).trans (Grd.carry HY2.out bY1)
 have KY3 : Hid ((Y1.setRow (w.heap.size + 1) (sAq st1 (.slice qa st1.ps.length qc))).heap[w.heap.size + 1 + 1 + 1]? = _) := (setRow_other _ _ _ _ (by omega)).trans (Grd.carry HY3.out bY1)
 have KB : Hid (Below w.heap.size w (Y1.setRow (w.heap.size + 1) (sAq st1 (.slice qa st1.ps.length qc)))) := below_setRow (HBY.out.trans (bY1.mono HBY.out.size)) (Nat.le_succ _) _
 have KI : Hid ((Y1.setRow (w.heap.size + 1) (sAq st1 (.slice qa st1.ps.length qc))).ownsRow Y0.heap.size 3 1 (.slice qa st1.ps.length qc) st1.ps.length (Prs.ints st1.ps)) := Ub hI1 (Fh _ _ _ _ (by omega))
 have KE : Hid (F5 (Y1.setRow (w.heap.size + 1) (sAq st1 (.slice qa st1.ps.length qc))) (.slice va es.length vc) es) := (qvq hE1 (Fh _ _ _ _ (by omega))).cut
 clear HY0 HY1 HY2 HY3 HBY bY1 hI1 hE1 HFD d0 d1 d2 d3 d4 d5 d6 df
 generalize Y0.heap.size = N0 at *
 go_upto_region 7 with (refine wpList_store_row rfl 35 (.tmp 4) (.tmp 23) rfl (w.heap.size + 1) (sAq st1 (.slice qa st1.ps.length qc)) rfl rfl _ _ HZ1.out (by kernel_rfl) rfl (qyh _ _ _ _ _ _ _ _ _) ?_)
 generalize Y1.setRow (w.heap.size + 1) (sAq st1 (.slice qa st1.ps.length qc)) = Y at *
 have HMG : Hid (∀ Z, Below Y.heap.size Y Z → Calls Tryz.prog 13 #[.slice va es.length vc] Z fun e w' => ∃ pa pc fs, e = .returned (.slice pa fs.length pc) ∧ (∀ f, f ∈ fs → Xb f) ∧ Y3 w' (.slice pa fs.length pc) fs ∧ fs.length ≤ 10000 ∧ EqR (Qt fs) (Qt (es.map Q5)) ∧ Below Z.heap.size Z w') := fun Z hZ => qkl es va vc Z (KE.out.next hZ) HEB.out hen
 have HSTEP : Hid (∀ Z, Below Y.heap.size Y Z → ∀ fid caps fs, Jp Z fid caps (Qt fs) → Calls Tryz.prog fid (#[.agg (scS s ca cc ta tc ga gc)] ++ caps) Z (Made w0 Z (Qt fs n hh s) 0)) := fun Z hZ fid caps fs h => h.runs w0 Z s _ _ _ n hh (Below.refl _ _) (HM.out Z (KB.out.trans (hZ.mono KB.out.size))) HR.out
 have ky : Below Y.heap.size Y Y.drew := (Below.refl _ _).drew
 clear HM KE HEB HZ1
 go_cut [11] from 31 to 38 (fun s11 wx => s11 = .int .i64 0 ∧ ∃ (a1 : Option Addr) (n1 c1 : Nat) (a2 : Option Addr) (n2 c2' : Nat) (a3 : Option Addr) (n3 c3 : Nat), wx.heap[w.heap.size]? = some (.cells (scrA (Qt (es.map Q5) n hh s) (.slice a1 n1 c1) (.slice a2 n2 c2') (.slice a3 n3 c3)) 32 (0, 0)) ∧ wx.heap[w.heap.size + 1]? = some (.cells (sAq st1 (.slice qa st1.ps.length qc)) 35 (0, 0)) ∧ wx.heap[w.heap.size + 1 + 1]? = some (.cells zA 32 (0, 0)) ∧ wx.heap[w.heap.size + 1 + 1 + 1]? = some (.cells zSq 35 (0, 0)) ∧ Qo wx 0 w.heap.size (Qt (es.map Q5) n hh s) (.slice a1 n1 c1) (.slice a2 n2 c2') (.slice a3 n3 c3) ∧ Below w.heap.size w wx ∧ wx.ownsRow N0 3 1 (.slice qa st1.ps.length qc) st1.ps.length (Prs.ints st1.ps))
 case first =>
  refine wp_region_noPanic ?_
  refine wp_region_held_drew (S := fun _ => True) (by kernel_rfl) trivial (fun hHeld => ?_)
  generalize Y.drew = Z0 at *
  refine Xl (i := 0) (v := ?_) rfl (by kernel_rfl) (by kernel_rfl) (by kernel_rfl) (fun _ _ _ h => h) (Or.inl ⟨by rfl, ?_⟩) hHeld ?_
  rotate_left
  ·intro w' hSw
   go_simp
   (try with_reducible rfl)
  (try simp only [Act.put, List.setIfInBounds_toArray, List.set_cons_zero, List.set_cons_succ])
  refine wpAnyH_ready (rs := [1, 3]) (by kernel_rfl) (by simp) ?_
  refine Jr rfl (fun K hK => ?_) <| Jr rfl (fun K hK => ?_) <| AllReadyH.nil
  ·go_simp
   refine (HMG.out _ ky).mono ?_
   rintro e Z1 ⟨ma, mc, fs, rfl, hkp, hsv, hfl, heq, b1⟩
   have ky1 := ky.trans (b1.mono ky.size)
   clear ky
   have ky := ky1
   clear ky1
   go_wp2_with fail
   refine hK.out _ _ trivial (fun hHeld => ?_)
   clear hK K
   (try simp only [Act.put, List.setIfInBounds_toArray, List.set_cons_zero, List.set_cons_succ])
   refine wpAnyH_ready (rs := [2, 3]) (by kernel_rfl) (by simp) ?_
   refine Jr rfl (fun K hK => ?_) <| Jr rfl (fun K hK => ?_) <| AllReadyH.nil
   ·go_simp
    refine (qlr fs hkp ma mc _ (by omega)).mono ?_
    rintro e Z2 ⟨fid, caps, rfl, hkf, hst, b2⟩
    have hsf := hst _ (Xc.refl _ _) (hsv.next b2)
    have ky1 := ky.trans (b2.mono ky.size)
    clear ky hst
    have ky := ky1
    clear ky1
    go_wp2_with fail
    refine hK.out _ _ trivial (fun hHeld => ?_)
    clear hK K
    (try simp only [Act.put, List.setIfInBounds_toArray, List.set_cons_zero, List.set_cons_succ])
    refine wpAnyH_ready (rs := [3]) (by kernel_rfl) (by simp) ?_
    refine Jr rfl (fun K hK => ?_) <| AllReadyH.nil
    ·rw [if_pos (by rfl)]
     refine wp_load_row 32 (.tmp 3) rfl w.heap.size rfl _ _ _ _ (Grd.carry KY0.out ky) Tryz.underlying32 rfl (by kernel_rfl) ?_
     refine hK.out _ _ trivial (fun hHeld => ?_)
     clear hK K
     (try simp only [Act.put, List.setIfInBounds_toArray, List.set_cons_zero, List.set_cons_succ])
     refine wpAnyH_ready (rs := [4]) (by kernel_rfl) (by simp) ?_
     refine Jr rfl (fun K hK => ?_) <| AllReadyH.nil
     ·have hpl := hsf.plain
      unfold Plain at hpl
      have HC := HSTEP.out _ ky fid caps fs hsf
      go_simp
      refine HC.mono ?_
      rintro e V ⟨cv', tv', gv', rfl, hO, b3⟩
      obtain ⟨a1, n1, c1, a2, n2, c2', a3, n3, c3, rfl, rfl, rfl⟩ := hO.shapes
      have hsz := ky.size
      have ky1 := ky.trans (b3.mono ky.size)
      clear ky HC b3
      have ky := ky1
      clear ky1 hpl
      go_wp2_with fail
      refine hK.out _ _ trivial (fun hHeld => ?_)
      clear hK K
      (try simp only [Act.put, List.setIfInBounds_toArray, List.set_cons_zero, List.set_cons_succ])
      refine Xl (i := 5) (v := ?_) rfl (by kernel_rfl) (by kernel_rfl) (by kernel_rfl) (fun _ _ _ h => h) (Or.inl ⟨by rfl, ?_⟩) hHeld ?_
      rotate_left
      ·intro w' hSw
       go_simp
       (try with_reducible rfl)
      (try simp only [Act.put, List.setIfInBounds_toArray, List.set_cons_zero, List.set_cons_succ])
      refine Xl (i := 6) (v := ?_) rfl (by kernel_rfl) (by kernel_rfl) (by kernel_rfl) (fun _ _ _ h => h) (Or.inl ⟨by rfl, ?_⟩) hHeld ?_
      rotate_left
      ·intro w' hSw
       go_simp
       (try with_reducible rfl)
      (try simp only [Act.put, List.setIfInBounds_toArray, List.set_cons_zero, List.set_cons_succ])
      refine Xl (i := 7) (v := ?_) rfl (by kernel_rfl) (by kernel_rfl) (by kernel_rfl) (fun _ _ _ h => h) (Or.inl ⟨by rfl, ?_⟩) hHeld ?_
      rotate_left
      ·intro w' hSw
       go_simp
       (try with_reducible rfl)
      (try simp only [Act.put, List.setIfInBounds_toArray, List.set_cons_zero, List.set_cons_succ])
      refine wpAnyH_ready (rs := [8]) (by kernel_rfl) (by simp) ?_
      refine Jr rfl (fun K hK => ?_) <| AllReadyH.nil
      ·rw [if_pos (by rfl)]
       refine wp_store_row 32 (.tmp 3) (.tmp 37) rfl w.heap.size (scrA (Qt fs n hh s) (.slice a1 n1 c1) (.slice a2 n2 c2') (.slice a3 n3 c3)) rfl rfl _ _ (Grd.carry KY0.out ky) (by kernel_rfl) rfl (Qn _ _ _ _ _ _ _ _ _ _) ?_
       refine hK.out _ _ trivial (fun hHeld => ?_)
       clear hK K
       (try simp only [Act.put, List.setIfInBounds_toArray, List.set_cons_zero, List.set_cons_succ])
       refine Xl (i := 9) (v := ?_) rfl (by kernel_rfl) (by kernel_rfl) (by kernel_rfl) (fun _ _ _ h => h) (Or.inl ⟨by rfl, ?_⟩) hHeld ?_
       rotate_left
       ·intro w' hSw
        go_simp
        (try with_reducible rfl)
       (try simp only [Act.put, List.setIfInBounds_toArray, List.set_cons_zero, List.set_cons_succ])
       refine wpAnyH_done (by kernel_rfl) ?_ _
       refine NoPanic.normal ?_
       have HFQ := heq s n hh HR.out
       rw [HFQ] at hO
       simp only [HFQ]
       go_wp2_with fail
       go_meet
       exact ⟨rfl, a1, n1, c1, a2, n2, c2', a3, n3, c3, setRow_heap _ _ _ _ _ _ (Grd.carry KY0.out ky), (setRow_other _ _ _ _ (by omega)).trans (Grd.carry KY1.out ky), (setRow_other _ _ _ _ (by omega)).trans (Grd.carry KY2.out ky), (setRow_other _ _ _ _ (by omega)).trans (Grd.carry KY3.out ky), (Qo.off hO (Grd.carry KY0.out ky) Ql (Nat.zero_le _) fun k hk => setRow_other V w.heap.size k (scrA (Qt (es.map Q5) n hh s) (.slice a1 n1 c1) (.slice a2 n2 c2') (.slice a3 n3 c3)) hk).mono (Nat.le_trans KB.out.size hsz), below_setRow (KB.out.trans (ky.mono KB.out.size)) (Nat.le_refl _) (scrA (Qt (es.map Q5) n hh s) (.slice a1 n1 c1) (.slice a2 n2 c2') (.slice a3 n3 c3)), Ub (Grd.ownsRow_below KI.out ky) (Fh V w.heap.size N0 (scrA (Qt (es.map Q5) n hh s) (.slice a1 n1 c1) (.slice a2 n2 c2') (.slice a3 n3 c3)) (by omega))⟩
   ·rw [if_pos (by rfl)]
    refine wp_load_row 32 (.tmp 3) rfl w.heap.size rfl _ _ _ _ (Grd.carry KY0.out ky) Tryz.underlying32 rfl (by kernel_rfl) ?_
    refine hK.out _ _ trivial (fun hHeld => ?_)
    clear hK K
    (try simp only [Act.put, List.setIfInBounds_toArray, List.set_cons_zero, List.set_cons_succ])
    refine wpAnyH_ready (rs := [2]) (by kernel_rfl) (by simp) ?_
    refine Jr rfl (fun K hK => ?_) <| AllReadyH.nil
    ·go_simp
     refine (qlr fs hkp ma mc _ (by omega)).mono ?_
     rintro e Z2 ⟨fid, caps, rfl, hkf, hst, b2⟩
     have hsf := hst _ (Xc.refl _ _) (hsv.next b2)
     have ky1 := ky.trans (b2.mono ky.size)
     clear ky hst
     have ky := ky1
     clear ky1
     go_wp2_with fail
     refine hK.out _ _ trivial (fun hHeld => ?_)
     clear hK K
     (try simp only [Act.put, List.setIfInBounds_toArray, List.set_cons_zero, List.set_cons_succ])
     refine wpAnyH_ready (rs := [4]) (by kernel_rfl) (by simp) ?_
     refine Jr rfl (fun K hK => ?_) <| AllReadyH.nil
     ·have hpl := hsf.plain
      unfold Plain at hpl
      have HC := HSTEP.out _ ky fid caps fs hsf
      go_simp
      refine HC.mono ?_
      rintro e V ⟨cv', tv', gv', rfl, hO, b3⟩
      obtain ⟨a1, n1, c1, a2, n2, c2', a3, n3, c3, rfl, rfl, rfl⟩ := hO.shapes
      have hsz := ky.size
      have ky1 := ky.trans (b3.mono ky.size)
      clear ky HC b3
      have ky := ky1
      clear ky1 hpl
      go_wp2_with fail
      refine hK.out _ _ trivial (fun hHeld => ?_)
      clear hK K
      (try simp only [Act.put, List.setIfInBounds_toArray, List.set_cons_zero, List.set_cons_succ])
      refine Xl (i := 5) (v := ?_) rfl (by kernel_rfl) (by kernel_rfl) (by kernel_rfl) (fun _ _ _ h => h) (Or.inl ⟨by rfl, ?_⟩) hHeld ?_
      rotate_left
      ·intro w' hSw
       go_simp
       (try with_reducible rfl)
      (try simp only [Act.put, List.setIfInBounds_toArray, List.set_cons_zero, List.set_cons_succ])
      refine Xl (i := 6) (v := ?_) rfl (by kernel_rfl) (by kernel_rfl) (by kernel_rfl) (fun _ _ _ h => h) (Or.inl ⟨by rfl, ?_⟩) hHeld ?_
      rotate_left
      ·intro w' hSw
       go_simp
       (try with_reducible rfl)
      (try simp only [Act.put, List.setIfInBounds_toArray, List.set_cons_zero, List.set_cons_succ])
      refine Xl (i := 7) (v := ?_) rfl (by kernel_rfl) (by kernel_rfl) (by kernel_rfl) (fun _ _ _ h => h) (Or.inl ⟨by rfl, ?_⟩) hHeld ?_
      rotate_left
      ·intro w' hSw
       go_simp
       (try with_reducible rfl)
      (try simp only [Act.put, List.setIfInBounds_toArray, List.set_cons_zero, List.set_cons_succ])
      refine wpAnyH_ready (rs := [8]) (by kernel_rfl) (by simp) ?_
      refine Jr rfl (fun K hK => ?_) <| AllReadyH.nil
      ·rw [if_pos (by rfl)]
       refine wp_store_row 32 (.tmp 3) (.tmp 37) rfl w.heap.size (scrA (Qt fs n hh s) (.slice a1 n1 c1) (.slice a2 n2 c2') (.slice a3 n3 c3)) rfl rfl _ _ (Grd.carry KY0.out ky) (by kernel_rfl) rfl (Qn _ _ _ _ _ _ _ _ _ _) ?_
       refine hK.out _ _ trivial (fun hHeld => ?_)
       clear hK K
       (try simp only [Act.put, List.setIfInBounds_toArray, List.set_cons_zero, List.set_cons_succ])
       refine Xl (i := 9) (v := ?_) rfl (by kernel_rfl) (by kernel_rfl) (by kernel_rfl) (fun _ _ _ h => h) (Or.inl ⟨by rfl, ?_⟩) hHeld ?_
       rotate_left
       ·intro w' hSw
        go_simp
        (try with_reducible rfl)
       (try simp only [Act.put, List.setIfInBounds_toArray, List.set_cons_zero, List.set_cons_succ])
       refine wpAnyH_done (by kernel_rfl) ?_ _
       refine NoPanic.normal ?_
       have HFQ := heq s n hh HR.out
       rw [HFQ] at hO
       simp only [HFQ]
       go_wp2_with fail
       go_meet
       exact ⟨rfl, a1, n1, c1, a2, n2, c2', a3, n3, c3, setRow_heap _ _ _ _ _ _ (Grd.carry KY0.out ky), (setRow_other _ _ _ _ (by omega)).trans (Grd.carry KY1.out ky), (setRow_other _ _ _ _ (by omega)).trans (Grd.carry KY2.out ky), (setRow_other _ _ _ _ (by omega)).trans (Grd.carry KY3.out ky), (Qo.off hO (Grd.carry KY0.out ky) Ql (Nat.zero_le _) fun k hk => setRow_other V w.heap.size k (scrA (Qt (es.map Q5) n hh s) (.slice a1 n1 c1) (.slice a2 n2 c2') (.slice a3 n3 c3)) hk).mono (Nat.le_trans KB.out.size hsz), below_setRow (KB.out.trans (ky.mono KB.out.size)) (Nat.le_refl _) (scrA (Qt (es.map Q5) n hh s) (.slice a1 n1 c1) (.slice a2 n2 c2') (.slice a3 n3 c3)), Ub (Grd.ownsRow_below KI.out ky) (Fh V w.heap.size N0 (scrA (Qt (es.map Q5) n hh s) (.slice a1 n1 c1) (.slice a2 n2 c2') (.slice a3 n3 c3)) (by omega))⟩
  ·rw [if_pos (by rfl)]
   refine wp_load_row 32 (.tmp 3) rfl w.heap.size rfl _ _ _ _ (Grd.carry KY0.out ky) Tryz.underlying32 rfl (by kernel_rfl) ?_
   refine hK.out _ _ trivial (fun hHeld => ?_)
   clear hK K
   (try simp only [Act.put, List.setIfInBounds_toArray, List.set_cons_zero, List.set_cons_succ])
   refine wpAnyH_ready (rs := [1]) (by kernel_rfl) (by simp) ?_
   refine Jr rfl (fun K hK => ?_) <| AllReadyH.nil
   ·go_simp
    refine (HMG.out _ ky).mono ?_
    rintro e Z1 ⟨ma, mc, fs, rfl, hkp, hsv, hfl, heq, b1⟩
    have ky1 := ky.trans (b1.mono ky.size)
    clear ky
    have ky := ky1
    clear ky1
    go_wp2_with fail
    refine hK.out _ _ trivial (fun hHeld => ?_)
    clear hK K
    (try simp only [Act.put, List.setIfInBounds_toArray, List.set_cons_zero, List.set_cons_succ])
    refine wpAnyH_ready (rs := [2]) (by kernel_rfl) (by simp) ?_
    refine Jr rfl (fun K hK => ?_) <| AllReadyH.nil
    ·go_simp
     refine (qlr fs hkp ma mc _ (by omega)).mono ?_
     rintro e Z2 ⟨fid, caps, rfl, hkf, hst, b2⟩
     have hsf := hst _ (Xc.refl _ _) (hsv.next b2)
     have ky1 := ky.trans (b2.mono ky.size)
     clear ky hst
     have ky := ky1
     clear ky1
     go_wp2_with fail
     refine hK.out _ _ trivial (fun hHeld => ?_)
     clear hK K
     (try simp only [Act.put, List.setIfInBounds_toArray, List.set_cons_zero, List.set_cons_succ])
     refine wpAnyH_ready (rs := [4]) (by kernel_rfl) (by simp) ?_
     refine Jr rfl (fun K hK => ?_) <| AllReadyH.nil
     ·have hpl := hsf.plain
      unfold Plain at hpl
      have HC := HSTEP.out _ ky fid caps fs hsf
      go_simp
      refine HC.mono ?_
      rintro e V ⟨cv', tv', gv', rfl, hO, b3⟩
      obtain ⟨a1, n1, c1, a2, n2, c2', a3, n3, c3, rfl, rfl, rfl⟩ := hO.shapes
      have hsz := ky.size
      have ky1 := ky.trans (b3.mono ky.size)
      clear ky HC b3
      have ky := ky1
      clear ky1 hpl
      go_wp2_with fail
      refine hK.out _ _ trivial (fun hHeld => ?_)
      clear hK K
      (try simp only [Act.put, List.setIfInBounds_toArray, List.set_cons_zero, List.set_cons_succ])
      refine Xl (i := 5) (v := ?_) rfl (by kernel_rfl) (by kernel_rfl) (by kernel_rfl) (fun _ _ _ h => h) (Or.inl ⟨by rfl, ?_⟩) hHeld ?_
      rotate_left
      ·intro w' hSw
       go_simp
       (try with_reducible rfl)
      (try simp only [Act.put, List.setIfInBounds_toArray, List.set_cons_zero, List.set_cons_succ])
      refine Xl (i := 6) (v := ?_) rfl (by kernel_rfl) (by kernel_rfl) (by kernel_rfl) (fun _ _ _ h => h) (Or.inl ⟨by rfl, ?_⟩) hHeld ?_
      rotate_left
      ·intro w' hSw
       go_simp
       (try with_reducible rfl)
      (try simp only [Act.put, List.setIfInBounds_toArray, List.set_cons_zero, List.set_cons_succ])
      refine Xl (i := 7) (v := ?_) rfl (by kernel_rfl) (by kernel_rfl) (by kernel_rfl) (fun _ _ _ h => h) (Or.inl ⟨by rfl, ?_⟩) hHeld ?_
      rotate_left
      ·intro w' hSw
       go_simp
       (try with_reducible rfl)
      (try simp only [Act.put, List.setIfInBounds_toArray, List.set_cons_zero, List.set_cons_succ])
      refine wpAnyH_ready (rs := [8]) (by kernel_rfl) (by simp) ?_
      refine Jr rfl (fun K hK => ?_) <| AllReadyH.nil
      ·rw [if_pos (by rfl)]
       refine wp_store_row 32 (.tmp 3) (.tmp 37) rfl w.heap.size (scrA (Qt fs n hh s) (.slice a1 n1 c1) (.slice a2 n2 c2') (.slice a3 n3 c3)) rfl rfl _ _ (Grd.carry KY0.out ky) (by kernel_rfl) rfl (Qn _ _ _ _ _ _ _ _ _ _) ?_
       refine hK.out _ _ trivial (fun hHeld => ?_)
       clear hK K
       (try simp only [Act.put, List.setIfInBounds_toArray, List.set_cons_zero, List.set_cons_succ])
       refine Xl (i := 9) (v := ?_) rfl (by kernel_rfl) (by kernel_rfl) (by kernel_rfl) (fun _ _ _ h => h) (Or.inl ⟨by rfl, ?_⟩) hHeld ?_
       rotate_left
       ·intro w' hSw
        go_simp
        (try with_reducible rfl)
       (try simp only [Act.put, List.setIfInBounds_toArray, List.set_cons_zero, List.set_cons_succ])
       refine wpAnyH_done (by kernel_rfl) ?_ _
       refine NoPanic.normal ?_
       have HFQ := heq s n hh HR.out
       rw [HFQ] at hO
       simp only [HFQ]
       go_wp2_with fail
       go_meet
       exact ⟨rfl, a1, n1, c1, a2, n2, c2', a3, n3, c3, setRow_heap _ _ _ _ _ _ (Grd.carry KY0.out ky), (setRow_other _ _ _ _ (by omega)).trans (Grd.carry KY1.out ky), (setRow_other _ _ _ _ (by omega)).trans (Grd.carry KY2.out ky), (setRow_other _ _ _ _ (by omega)).trans (Grd.carry KY3.out ky), (Qo.off hO (Grd.carry KY0.out ky) Ql (Nat.zero_le _) fun k hk => setRow_other V w.heap.size k (scrA (Qt (es.map Q5) n hh s) (.slice a1 n1 c1) (.slice a2 n2 c2') (.slice a3 n3 c3)) hk).mono (Nat.le_trans KB.out.size hsz), below_setRow (KB.out.trans (ky.mono KB.out.size)) (Nat.le_refl _) (scrA (Qt (es.map Q5) n hh s) (.slice a1 n1 c1) (.slice a2 n2 c2') (.slice a3 n3 c3)), Ub (Grd.ownsRow_below KI.out ky) (Fh V w.heap.size N0 (scrA (Qt (es.map Q5) n hh s) (.slice a1 n1 c1) (.slice a2 n2 c2') (.slice a3 n3 c3)) (by omega))⟩
 case rest =>
  obtain ⟨rfl, a1, n1, c1, a2, n2, c2', a3, n3, c3, hq0, hq1, hq2, hq3, hOq, hBq, hIq⟩ := hcut
  have HQ0 : Hid _ := hq0
  have HQ1 : Hid _ := hq1
  have HQ2 : Hid _ := hq2
  have HQ3 : Hid _ := hq3
  have HOQ : Hid (Qo _ 0 _ _ _ _ _) := hOq
  have HBQ : Hid (Below w.heap.size w _) := hBq
  have HIQ : Hid _ := hIq
  clear hq0 hq1 hq2 hq3 hOq hBq hIq ky KY0 KY1 KY2 KY3 KB KI HMG HSTEP
  generalize hV2 : wc = V2 at *
  clear hV2
  go_upto_region 8 with fail
  refine wp_region_held_drew (S := fun w' => w'.heap[w.heap.size]? = some (.cells (scrA (Qt (es.map Q5) n hh s) (.slice a1 n1 c1) (.slice a2 n2 c2') (.slice a3 n3 c3)) 32 (0, 0)) ∧ w'.heap[w.heap.size + 1]? = some (.cells (sAq st1 (.slice qa st1.ps.length qc)) 35 (0, 0))) (by kernel_rfl) ⟨HQ0.out, HQ1.out⟩ (fun hHeld => ?_)
  refine Xl (i := 0) (v := .agg (scrA (Qt (es.map Q5) n hh s) (.slice a1 n1 c1) (.slice a2 n2 c2') (.slice a3 n3 c3))) rfl (by kernel_rfl) (by kernel_rfl) (by kernel_rfl) (fun _ _ _ h => h) (Or.inl ⟨by rfl, ?_⟩) hHeld ?_
  ·intro w' hSw
   refine (Jc _ _ _ _ _ _ _ w' ?_).trans ?_
   ·exact (Qu hSw.1).1
   ·exact congrArg (fun z => Result.ok (Next.value (.agg z)) w') (Qu hSw.1).2
  (try simp only [Act.put, List.setIfInBounds_toArray, List.set_cons_zero, List.set_cons_succ])
  refine Xl (i := 1) (v := ?_) rfl (by kernel_rfl) (by kernel_rfl) (by kernel_rfl) (fun _ _ _ h => h) (Or.inl ⟨by rfl, ?_⟩) hHeld ?_
  rotate_left
  ·intro w' hSw
   obtain ⟨g0, g1, g2, g3, g4, g5, g6, gf⟩ := Prs.Xv hSw.2
   go_simp
   (try with_reducible rfl)
  (try simp only [Act.put, List.setIfInBounds_toArray, List.set_cons_zero, List.set_cons_succ])
  refine Xl (i := 2) (v := ?_) rfl (by kernel_rfl) (by kernel_rfl) (by kernel_rfl) (fun _ _ _ h => h) (Or.inl ⟨by rfl, ?_⟩) hHeld ?_
  rotate_left
  ·intro w' hSw
   go_simp
   (try with_reducible rfl)
  (try simp only [Act.put, List.setIfInBounds_toArray, List.set_cons_zero, List.set_cons_succ])
  refine wpAnyH_ready (rs := [3]) (by kernel_rfl) (by simp) ?_
  refine Jr rfl (fun K hK => ?_) <| AllReadyH.nil
  ·rw [if_pos (by rfl)]
   refine wp_store_row 32 (.tmp 6) (.tmp 39) rfl (w.heap.size + 1 + 1) (scrA (Qt (es.map Q5) n hh s) (.slice a1 n1 c1) (.slice a2 n2 c2') (.slice a3 n3 c3)) rfl rfl _ _ (show V2.drew.heap[w.heap.size + 1 + 1]? = _ from HQ2.out) (by kernel_rfl) rfl (Qn _ _ _ _ _ _ _ _ _ _) ?_
   refine hK.out _ _ ⟨(setRow_other _ _ _ _ (by omega)).trans HQ0.out, (setRow_other _ _ _ _ (by omega)).trans HQ1.out⟩ (fun hHeld => ?_)
   clear hK K
   (try simp only [Act.put, List.setIfInBounds_toArray, List.set_cons_zero, List.set_cons_succ])
   refine wpAnyH_ready (rs := [4]) (by kernel_rfl) (by simp) ?_
   refine Jr rfl (fun K hK => ?_) <| AllReadyH.nil
   ·rw [if_pos (by rfl)]
    have hz3 : (V2.drew.setRow (w.heap.size + 1 + 1) (scrA (Qt (es.map Q5) n hh s) (.slice a1 n1 c1) (.slice a2 n2 c2') (.slice a3 n3 c3))).heap[w.heap.size + 1 + 1 + 1]? = _ := (setRow_other _ _ _ _ (by omega)).trans HQ3.out
    have hz2 : (V2.drew.setRow (w.heap.size + 1 + 1) (scrA (Qt (es.map Q5) n hh s) (.slice a1 n1 c1) (.slice a2 n2 c2') (.slice a3 n3 c3))).heap[w.heap.size + 1 + 1]? = some (.cells (scrA (Qt (es.map Q5) n hh s) (.slice a1 n1 c1) (.slice a2 n2 c2') (.slice a3 n3 c3)) 32 (0, 0)) := setRow_heap _ _ _ _ _ _ (show V2.drew.heap[w.heap.size + 1 + 1]? = _ from HQ2.out)
    have hy0 : (V2.drew.setRow (w.heap.size + 1 + 1) (scrA (Qt (es.map Q5) n hh s) (.slice a1 n1 c1) (.slice a2 n2 c2') (.slice a3 n3 c3))).heap[w.heap.size]? = _ := (setRow_other _ _ _ _ (by omega)).trans HQ0.out
    have hy1 : (V2.drew.setRow (w.heap.size + 1 + 1) (scrA (Qt (es.map Q5) n hh s) (.slice a1 n1 c1) (.slice a2 n2 c2') (.slice a3 n3 c3))).heap[w.heap.size + 1]? = _ := (setRow_other _ _ _ _ (by omega)).trans HQ1.out
    refine wp_store_row 35 (.tmp 7) (.tmp 40) rfl (w.heap.size + 1 + 1 + 1) (sAq st1 (.slice qa st1.ps.length qc)) rfl rfl _ _ hz3 (by kernel_rfl) rfl (qyh _ _ _ _ _ _ _ _ _) ?_
    refine hK.out _ _ ⟨(setRow_other _ _ _ _ (by omega)).trans hy0, (setRow_other _ _ _ _ (by omega)).trans hy1⟩ (fun hHeld => ?_)
    clear hK K
    (try simp only [Act.put, List.setIfInBounds_toArray, List.set_cons_zero, List.set_cons_succ])
    refine Xl (i := 5) (v := ?_) rfl (by kernel_rfl) (by kernel_rfl) (by kernel_rfl) (fun _ _ _ h => h) (Or.inl ⟨by rfl, ?_⟩) hHeld ?_
    rotate_left
    ·intro w' hSw
     go_simp
     (try with_reducible rfl)
    (try simp only [Act.put, List.setIfInBounds_toArray, List.set_cons_zero, List.set_cons_succ])
    refine wpAnyH_done (by kernel_rfl) ?_ _
    have HO2 : Hid _ := Qo.off (HOQ.out.next (Below.refl _ _).drew) (show V2.drew.heap[w.heap.size + 1 + 1]? = _ from HQ2.out) Ql (Nat.zero_le _) fun k hk => setRow_other V2.drew (w.heap.size + 1 + 1) k (scrA (Qt (es.map Q5) n hh s) (.slice a1 n1 c1) (.slice a2 n2 c2') (.slice a3 n3 c3)) hk
    have HO3 : Hid _ := Qo.off HO2.out hz3 qvw (Nat.zero_le _) fun k hk => setRow_other (V2.drew.setRow (w.heap.size + 1 + 1) (scrA (Qt (es.map Q5) n hh s) (.slice a1 n1 c1) (.slice a2 n2 c2') (.slice a3 n3 c3))) (w.heap.size + 1 + 1 + 1) k (sAq st1 (.slice qa st1.ps.length qc)) hk
    have HB3 : Hid (Below w.heap.size w ((V2.drew.setRow (w.heap.size + 1 + 1) (scrA (Qt (es.map Q5) n hh s) (.slice a1 n1 c1) (.slice a2 n2 c2') (.slice a3 n3 c3))).setRow (w.heap.size + 1 + 1 + 1) (sAq st1 (.slice qa st1.ps.length qc)))) := below_setRow (below_setRow HBQ.out.drew (show w.heap.size ≤ w.heap.size + 1 + 1 by omega) (scrA (Qt (es.map Q5) n hh s) (.slice a1 n1 c1) (.slice a2 n2 c2') (.slice a3 n3 c3))) (show w.heap.size ≤ w.heap.size + 1 + 1 + 1 by omega) (sAq st1 (.slice qa st1.ps.length qc))
    have HI3 : Hid _ := Ub (Ub (Grd.ownsRow_below HIQ.out (Below.refl _ _).drew) (Fh V2.drew (w.heap.size + 1 + 1) N0 (scrA (Qt (es.map Q5) n hh s) (.slice a1 n1 c1) (.slice a2 n2 c2') (.slice a3 n3 c3)) (by omega))) (Fh (V2.drew.setRow (w.heap.size + 1 + 1) (scrA (Qt (es.map Q5) n hh s) (.slice a1 n1 c1) (.slice a2 n2 c2') (.slice a3 n3 c3))) (w.heap.size + 1 + 1 + 1) N0 (sAq st1 (.slice qa st1.ps.length qc)) (by omega))
    have HZ2 : Hid _ := hz2
    have HZ3 : Hid _ := hz3
    clear hz2 hz3 hy0 hy1
    go_wp2_with fail
    (try simp only [Exit.inBlock, Exit.then])
    refine bodyPost_ret (v := .tuple #[.agg (scrA (Qt (es.map Q5) n hh s) (.slice a1 n1 c1) (.slice a2 n2 c2') (.slice a3 n3 c3)), .agg (sAq st1 (.slice qa st1.ps.length qc)), .int .i64 0]) ?_ rfl ⟨_, _, _, _, rfl, HO3.out, Grd.Q0 HI3.out (by omega), HB3.out⟩
    exact qda rfl _ _ (w.heap.size + 1 + 1) (w.heap.size + 1 + 1 + 1) _ _ _ _ _ _ _ _ rfl ((setRow_other _ _ _ _ (by omega)).trans HZ2.out) rfl (setRow_heap _ _ _ _ _ _ HZ3.out) Tryz.underlying32 rfl (by kernel_rfl) Tryz.underlying35 rfl (by kernel_rfl) _ rfl
def stA (st : Prs.St) (p : Option Addr) (c : Nat) : Array Value := (sAq st (.slice p st.ps.length c))
theorem qsk (st : Prs.St) (p : Option Addr) (c : Nat) : (stA st p c).all (·.oneCell') = true := qyh _ _ _ _ _ _ _ _ _
theorem qys {w V : World} {A B : Array Value} (hB : Below w.heap.size w V) :
  ((V.alloc (.cells zA 32)).alloc (.cells zSq 35)).heap[V.heap.size]? = some (.cells zA 32 (0, 0)) ∧ (((V.alloc (.cells zA 32)).alloc (.cells zSq 35)).setRow V.heap.size A).heap[V.heap.size + 1]? = some (.cells zSq 35 (0, 0)) ∧ ((((V.alloc (.cells zA 32)).alloc (.cells zSq 35)).setRow V.heap.size A).setRow (V.heap.size + 1) B).heap[V.heap.size]? = some (.cells A 32 (0, 0)) ∧ ((((V.alloc (.cells zA 32)).alloc (.cells zSq 35)).setRow V.heap.size A).setRow (V.heap.size + 1) B).heap[V.heap.size + 1]? = some (.cells B 35 (0, 0)) ∧ Below V.heap.size V ((((V.alloc (.cells zA 32)).alloc (.cells zSq 35)).setRow V.heap.size A).setRow (V.heap.size + 1) B) ∧ Below w.heap.size w ((((V.alloc (.cells zA 32)).alloc (.cells zSq 35)).setRow V.heap.size A).setRow (V.heap.size + 1) B) := by
 have h0 : ((V.alloc (.cells zA 32)).alloc (.cells zSq 35)).heap[V.heap.size]? = some (.cells zA 32 (0, 0)) := (Below.heap_alloc _ _ _ (by first | (simp; done) | (simp; omega))).trans (heap_alloc_new V _)
 have h1 : ((V.alloc (.cells zA 32)).alloc (.cells zSq 35)).heap[V.heap.size + 1]? = some (.cells zSq 35 (0, 0)) := heap_alloc2_new V _ _
 have h2 : (((V.alloc (.cells zA 32)).alloc (.cells zSq 35)).setRow V.heap.size A).heap[V.heap.size + 1]? = some (.cells zSq 35 (0, 0)) := (setRow_other _ _ _ _ (by omega)).trans h1
 have hb : Below V.heap.size V ((((V.alloc (.cells zA 32)).alloc (.cells zSq 35)).setRow V.heap.size A).setRow (V.heap.size + 1) B) := below_setRow (below_setRow (((Below.refl _ _).alloc (Nat.le_refl _) _).alloc (by first | (simp; done) | (simp; omega)) _) (Nat.le_refl _) _) (Nat.le_succ _) _
 exact ⟨h0, h2, (setRow_other _ _ _ _ (by omega)).trans (setRow_heap _ _ _ _ _ _ h0), setRow_heap _ _ _ _ _ _ h2, hb, hB.trans (hb.mono hB.size)⟩
theorem okB : Prs.Ok (Prs.bare 0) := Prs.X8 0 (by omega) (by omega) (by omega)
theorem q0p (w : World) : Qz w (.slice none 0 0) (Prs.bare 0).ps := .inl ⟨rfl, _, _, rfl⟩
structure Tb (w : World) : Prop where
 t : Txt.Tab w
 l : Stl.Tab w
 p : Prs.Tabs w
theorem Tb.next {w W : World} (h : Tb w) (hb : Below w.heap.size w W) : Tb W := ⟨Grd.Tab.next h.t hb, h.l.below hb h.l.pos, h.p.next hb⟩
theorem qey {es : List Prs.Ev} (h : ∀ e, e ∈ es → Xb (Q5 e)) : Xb (Qt (es.map Q5)) := Jo fun f hf => by
 obtain ⟨e, he, rfl⟩ := List.mem_map.1 hf
 exact h e he
theorem qpe (t : ByteArray) : Xb (qgv t) := fun _ _ _ h => qfy h t
theorem qko (t : ByteArray) : Xb (Y6 t) := by
 unfold Y6
 split
 ·exact Kk
 ·exact qpe _
theorem qdo {f g : Phi} (hf : Xb f) (hg : Xb g) : Xb (Qt [f, g]) := Jo fun z hz => by
 rcases List.mem_cons.1 hz with rfl | hz
 ·exact hf
 ·rw [List.mem_singleton.1 hz]
  exact hg
theorem qbp (m : Int) (on : Bool) : ∀ (ps : List Int), ∀ f, f ∈ Xm m on ps → Xb f
 | [], f, hf => absurd hf List.not_mem_nil
 | k :: l, f, hf => by
  rw [Ue] at hf
  split at hf
  ·exact qbp m on l f hf
  ·rcases List.mem_cons.1 hf with rfl | hf
   ·exact qil _ _ (qbs m k).1 (qbs m k).2
   ·exact qbp m on l f hf
theorem qh8 (r : Int) : Xb (Yt r) := by
 unfold Yt
 repeat' split
 ·exact (qq6 1).keeps
 ·exact (qwg 1).keeps
 ·exact qdr.keeps
 ·exact Vo.keeps
 ·exact Kk
theorem qj8 (r : Int) : Xb (Gq r) := by
 unfold Gq
 repeat' split
 ·exact qka.keeps
 ·exact qk5.keeps
 ·exact qdr.keeps
 ·exact qdo Vo.keeps qdr.keeps
 ·exact qnq.keeps
 ·exact qxr.keeps
 ·exact qjw.keeps
 ·exact Kk
theorem qhv (f : Int) (ps : List Int) : Xb (Zt f ps) := by
 unfold Zt
 repeat' split
 ·exact qdo (qkr _).keeps Vo.keeps
 ·exact qdo (ctUp _).keeps Vo.keeps
 ·exact (ctTo _ _).keeps
 ·exact fun _ _ _ h => qbt h _
 ·exact fun _ _ _ h => qim h _ _
 ·exact qka.keeps
 ·exact qk5.keeps
 ·exact Kk
theorem qh1 (e : Prs.Ev) : Xb (Xz e) := by
 unfold Xz
 split
 ·exact Jo (qbp _ _ _)
 ·split
  ·exact Kk
  ·rcases qiv e.fin (par e.ps 0 1) with ⟨-, v2⟩ | ⟨fid, f, -, v2, hct⟩
   ·rw [v2]
    rcases qii e.fin (par e.ps 0 0) with ⟨-, v3⟩ | ⟨fid, f, -, v3, hct⟩
    ·rw [v3]
     exact qhv _ _
    ·rw [v3]
     exact hct.keeps
   ·rw [v2]
    exact hct.keeps
theorem qvf (e : Prs.Ev) : Xb (Q5 e) := by
 unfold Q5
 repeat' split
 ·exact Ug _
 ·exact qh8 _
 ·exact qj8 _
 ·exact qh1 _
 ·exact qko _
 ·exact Kk
def qck (es : List Prs.Ev) : Phi := Qt (es.map Q5)
theorem qt4 (es : List Prs.Ev) : Xb (qck es) := qey fun e _ => qvf e
theorem qma {w : World} {s : Scr} {cv tv gv : Value} {n hh : Nat} (hT : Tb w) (hV : Zh w s cv tv gv) (hR : Qg s n hh) (st : Prs.St) (pa : Option Addr) (pc : Nat) (hI : Qz w (.slice pa st.ps.length pc) st.ps) (ho : Prs.Ok st) (b : ByteArray) (hb : b.size ≤ 4000) : Calls Tryz.prog 5 #[.agg (scrA s cv tv gv), .agg (stA st pa pc), .string b] w fun e W => ∃ cv' tv' gv' qa qc, e = .returned (.tuple #[.agg (scrA (qck (Prs.feed st b.data.toList).2 n hh s) cv' tv' gv'), .agg (stA (Prs.feed st b.data.toList).1 qa qc), .int .i64 0]) ∧ Qo W 0 w.heap.size (qck (Prs.feed st b.data.toList).2 n hh s) cv' tv' gv' ∧ W.ownsRow w.heap.size 3 1 (.slice qa (Prs.feed st b.data.toList).1.ps.length qc) (Prs.feed st b.data.toList).1.ps.length (Prs.ints (Prs.feed st b.data.toList).1.ps) ∧ Below w.heap.size w W := by
 refine (qu9 (w0 := w) ⟨⟨hT.t, hV, Below.refl _ _, hR.fits⟩, hT.l⟩ hR st _ hI ho b hb hT.p).mono ?_
 rintro e W ⟨cv', tv', gv', pv', rfl, h1, h2, h3⟩
 obtain ⟨qa, qc, rfl⟩ := Qw h2
 exact ⟨cv', tv', gv', qa, qc, rfl, h1, h2, h3⟩
theorem quz : (Prs.feed (Prs.bare 0) [27, 99]).2 = [⟨3, 0, 99, 0, Prs.nt, [], Prs.nt⟩] := by rfl
theorem qyn : Prs.nt.toList.isEmpty = true := by
 unfold Prs.nt ByteArray.toList
 rw [ByteArray.toList.loop]
 rfl
theorem qnd : Q5 ⟨3, 0, 99, 0, Prs.nt, [], Prs.nt⟩ = qky := by
 unfold Q5
 rw [if_neg (by decide), if_neg (by decide), if_pos ⟨rfl, qyn⟩]
 rfl
theorem qmx (n hh : Nat) (s : Scr) : qck [⟨3, 0, 99, 0, Prs.nt, [], Prs.nt⟩] n hh s = Xt s n hh := by
 show Q5 ⟨3, 0, 99, 0, Prs.nt, [], Prs.nt⟩ n hh s = _
 rw [qnd]
 rfl
set_option maxHeartbeats 8000000 in
theorem qqx (s : Scr) (cv tv gv : Value) (b : ByteArray) (w : World) (hT : Tb w) (hV : Zh w s cv tv gv) (n hh : Nat) (hR : Qg s n hh) (hb : b.size ≤ 3998) :
  Calls Tryz.prog 4 #[.agg (scrA s cv tv gv), .string b] w fun e w' => e = .returned (.bool true) ∧ Below w.heap.size w w' := by
 have x0 := heap_alloc_new w (.cells (scrA s cv tv gv) 32)
 have kb : Below w.heap.size w (w.alloc (.cells (scrA s cv tv gv) 32)) := (Below.refl _ _).alloc (Nat.le_refl _) _
 have HP : Hid (∀ W, Below w.heap.size w W → Calls Tryz.prog 6 #[] W fun e w' => e = .returned (.bool true) ∧ Below W.heap.size W w') := fun W h => qap W (hT.next h).t
 have HCK : Hid (∀ W, Below w.heap.size w W → Calls Tryz.prog 7 #[.agg (scrA s cv tv gv)] W fun e w' => e = .returned (.int .i64 0) ∧ Below W.heap.size W w') := fun W h => by
  have := Zq s cv tv gv W (hT.next h).t (hV.next h) hR.fits
  rwa [Yn hR] at this
 have hlt : ¬ ((3998 : Int) < (b.size : Int)) := by omega
 have hR1 := qt4 (Prs.feed (Prs.bare 0) b.data.toList).2 s n hh hR
 have HF1 : Hid (∀ W, Below w.heap.size w W → Calls Tryz.prog 5 #[.agg (scrA s cv tv gv), .agg (stA (Prs.bare 0) none 0), .string b] W fun e X => ∃ cv' tv' gv' qa qc, e = .returned (.tuple #[.agg (scrA (qck (Prs.feed (Prs.bare 0) b.data.toList).2 n hh s) cv' tv' gv'), .agg (stA (Prs.feed (Prs.bare 0) b.data.toList).1 qa qc), .int .i64 0]) ∧ Qo X 0 W.heap.size (qck (Prs.feed (Prs.bare 0) b.data.toList).2 n hh s) cv' tv' gv' ∧ X.ownsRow W.heap.size 3 1 (.slice qa (Prs.feed (Prs.bare 0) b.data.toList).1.ps.length qc) (Prs.feed (Prs.bare 0) b.data.toList).1.ps.length (Prs.ints (Prs.feed (Prs.bare 0) b.data.toList).1.ps) ∧ Below W.heap.size W X) := fun W h => qma (hT.next h) (hV.next h) hR (Prs.bare 0) none 0 (q0p W) okB b (by omega)
 generalize qck (Prs.feed (Prs.bare 0) b.data.toList).2 n hh s = s1 at *
 generalize (Prs.feed (Prs.bare 0) b.data.toList).1 = st1 at *
 have HF2 : Hid (∀ W cv tv gv, Below w.heap.size w W → Zh W s1 cv tv gv → Calls Tryz.prog 5 #[.agg (scrA s1 cv tv gv), .agg (stA (Prs.bare 0) none 0), .string ⟨#[27, 99]⟩] W fun e X => ∃ cv' tv' gv' qa qc st2, e = .returned (.tuple #[.agg (scrA (Xt s1 n hh) cv' tv' gv'), .agg (stA st2 qa qc), .int .i64 0]) ∧ Qo X 0 W.heap.size (Xt s1 n hh) cv' tv' gv' ∧ Below W.heap.size W X) := fun W cv tv gv h hv => by
  refine (qma (hT.next h) hv hR1 (Prs.bare 0) none 0 (q0p W) okB ⟨#[27, 99]⟩ (by decide)).mono ?_
  rintro e X ⟨cv', tv', gv', qa, qc, rfl, h1, h2, h3⟩
  have e1 : qck (Prs.feed (Prs.bare 0) (⟨#[27, 99]⟩ : ByteArray).data.toList).2 n hh s1 = Xt s1 n hh := by
   show qck (Prs.feed (Prs.bare 0) [27, 99]).2 n hh s1 = _
   rw [quz]
   exact qmx n hh s1
  rw [e1] at h1 ⊢
  exact ⟨cv', tv', gv', qa, qc, _, rfl, h1, h3⟩
 have HNW : Hid (∀ V, Calls Tryz.prog 10 #[.int .i64 (n : Int), .int .i64 (hh : Int)] V (Made V V (Qp n hh) 0)) := fun V => qd0 n hh V (q0o hR)
 have HSM : Hid (Small (Xt s1 n hh)) := qzq (qjw.keeps s1 n hh hR1)
 have HRS : Hid (Xt s1 n hh = { Qp n hh with gone := s1.gone }) := rfl
 have hw0 : s.w = (n : Int) := hR.w
 have hh0 : s.h = (hh : Int) := hR.h
 have HX0 : Hid _ := x0
 have HKB : Hid _ := kb
 clear x0 kb hT hV hR hR1 hb
 go_enter Tryz.func4, Tryz.ntmps4
 go_wp2_with fail
 refine (HP.out _ HKB.out).mono ?_
 rintro e U1 ⟨rfl, b1⟩
 have HBU1 : Hid (Below w.heap.size w U1) := HKB.out.trans (b1.mono HKB.out.size)
 have HXU1 : Hid (U1.heap[w.heap.size]? = _) := Grd.carry HX0.out b1
 clear b1 HX0 HKB
 go_wp2_with (refine BigFrame.wpList_want rfl fun K hK => wp_load_row 32 (.tmp 2) rfl w.heap.size rfl _ _ _ _ HXU1.out Tryz.underlying32 rfl (by kernel_rfl) (hK _ _ ?_))
 refine (HCK.out _ HBU1.out).mono ?_
 rintro e U2 ⟨rfl, b1⟩
 have HBU2 : Hid (Below w.heap.size w U2) := HBU1.out.trans (b1.mono HBU1.out.size)
 have HXU2 : Hid (U2.heap[w.heap.size]? = _) := Grd.carry HXU1.out b1
 clear b1 HXU1 HBU1 HCK
 go_upto_region 3 with fail
 go_wp2_with (refine wpList_load_row rfl 32 (.tmp 2) rfl w.heap.size rfl _ _ _ _ HXU2.out Tryz.underlying32 rfl (by kernel_rfl) ?_)
 refine (HF1.out _ HBU2.out).mono ?_
 rintro e V1 ⟨cv1, tv1, gv1, qa1, qc1, rfl, hO, hI, b1⟩
 have hv1 := hO
 obtain ⟨d11, m11, e11, d21, m21, e21, d31, m31, e31, rfl, rfl, rfl⟩ := hO.shapes
 have HB1 : Hid (Below w.heap.size w V1) := HBU2.out.trans (b1.mono HBU2.out.size)
 have HX1 : Hid (V1.heap[w.heap.size]? = _) := Grd.carry HXU2.out b1
 obtain ⟨k1, k2, k3, k4, k5, k6⟩ := qys (A := (scT s1 d11 m11 e11 d21 m21 e21 d31 m31 e31)) (B := (stA st1 qa1 qc1)) HB1.out
 have HL1 : Hid _ := k1
 have HL2 : Hid _ := k2
 have HM1 : Hid _ := k3
 have HX1b : Hid _ := Grd.carry HX1.out k5
 have HV1 : Hid (Qo _ 0 _ s1 _ _ _) := hv1.next k5
 have HN1 : Hid _ := k6
 clear hO b1 k1 k2 k3 k4 k5 k6 hv1 HX1 hI HF1 HXU2 HBU2 HB1
 go_upto_region 4 with (first | (refine wpList_store_row rfl 32 (.tmp 5) _ rfl V1.heap.size (scT s1 d11 m11 e11 d21 m21 e21 d31 m31 e31) rfl rfl _ _ HL1.out (by kernel_rfl) rfl (Qn _ _ _ _ _ _ _ _ _ _) ?_) | (refine wpList_store_row rfl 35 (.tmp 6) _ rfl (V1.heap.size + 1) (stA st1 qa1 qc1) rfl rfl _ _ HL2.out (by kernel_rfl) rfl (qsk _ _ _) ?_))
 generalize ((((V1.alloc (.cells zA 32)).alloc (.cells zSq 35)).setRow V1.heap.size (scT s1 d11 m11 e11 d21 m21 e21 d31 m31 e31)).setRow (V1.heap.size + 1) (stA st1 qa1 qc1)) = X1 at *
 clear HL1 HL2
 go_wp2_with (refine wpList_load_row rfl 32 (.tmp 5) rfl V1.heap.size rfl _ _ _ _ HM1.out Tryz.underlying32 rfl (by kernel_rfl) ?_)
 refine (HF2.out X1 _ _ _ HN1.out HV1.out.scr).mono ?_
 rintro e V2 ⟨cv2, tv2, gv2, qa2, qc2, st2, rfl, hO, b1⟩
 have hv2 := hO
 obtain ⟨d12, m12, e12, d22, m22, e22, d32, m32, e32, rfl, rfl, rfl⟩ := hO.shapes
 have HB2 : Hid (Below w.heap.size w V2) := HN1.out.trans (b1.mono HN1.out.size)
 obtain ⟨k1, k2, k3, k4, k5, k6⟩ := qys (A := (scT (Xt s1 n hh) d12 m12 e12 d22 m22 e22 d32 m32 e32)) (B := (stA st2 qa2 qc2)) HB2.out
 have kk := b1.trans (k5.mono b1.size)
 have HL1 : Hid _ := k1
 have HL2 : Hid _ := k2
 have HM2 : Hid _ := k3
 have HX2b : Hid _ := Grd.carry HX1b.out kk
 have HM1b : Hid _ := Grd.carry HM1.out kk
 have HV1b : Hid (Qo _ 0 _ s1 _ _ _) := HV1.out.next kk
 have HV2 : Hid (Qo _ 0 _ (Xt s1 n hh) _ _ _) := hv2.next k5
 have HN2 : Hid _ := k6
 clear hO b1 k1 k2 k3 k4 k5 k6 hv2 HX1b HM1 HV1 HN1 HF2 HB2 kk
 go_upto_region 5 with (first | (refine wpList_store_row rfl 32 (.tmp 8) _ rfl V2.heap.size (scT (Xt s1 n hh) d12 m12 e12 d22 m22 e22 d32 m32 e32) rfl rfl _ _ HL1.out (by kernel_rfl) rfl (Qn _ _ _ _ _ _ _ _ _ _) ?_) | (refine wpList_store_row rfl 35 (.tmp 9) _ rfl (V2.heap.size + 1) (stA st2 qa2 qc2) rfl rfl _ _ HL2.out (by kernel_rfl) rfl (qsk _ _ _) ?_))
 generalize ((((V2.alloc (.cells zA 32)).alloc (.cells zSq 35)).setRow V2.heap.size (scT (Xt s1 n hh) d12 m12 e12 d22 m22 e22 d32 m32 e32)).setRow (V2.heap.size + 1) (stA st2 qa2 qc2)) = X2 at *
 clear HL1 HL2
 obtain ⟨c0, c1⟩ : X2.cell? ⟨w.heap.size, 0, none⟩ = some (.int .i64 (n : Int)) ∧ X2.cell? ⟨w.heap.size, 1, none⟩ = some (.int .i64 (hh : Int)) := by
  obtain ⟨⟨q0, q1, -⟩, -⟩ := Qh HX2b.out
  rw [hw0] at q0
  rw [hh0] at q1
  exact ⟨q0, q1⟩
 go_wp2_with fail
 refine (HNW.out X2).mono ?_
 rintro e V3 ⟨cv3, tv3, gv3, rfl, hO, b1⟩
 have hv3 := hO
 obtain ⟨d13, m13, e13, d23, m23, e23, d33, m33, e33, rfl, rfl, rfl⟩ := hO.shapes
 have HB3 : Hid (Below w.heap.size w V3) := HN2.out.trans (b1.mono HN2.out.size)
 obtain ⟨k1, k2, k3, k4⟩ := q1m (A := (scT (Qp n hh) d13 m13 e13 d23 m23 e23 d33 m33 e33)) HB3.out
 have kk := b1.trans (k2.mono b1.size)
 have HL3 : Hid _ := k4
 have HM3 : Hid _ := k1
 have HN3 : Hid _ := k3
 have HM1c : Hid _ := Grd.carry HM1b.out kk
 have HM2c : Hid _ := Grd.carry HM2.out kk
 have HV1c : Hid (Qo _ 0 _ s1 _ _ _) := HV1b.out.next kk
 have HV2c : Hid (Qo _ 0 _ (Xt s1 n hh) _ _ _) := HV2.out.next kk
 have HV3 : Hid (Qo _ 0 _ (Qp n hh) _ _ _) := hv3.next k2
 have hl1 := Qc HM1b.out
 have hl2 := Qc HM2.out
 have hs3 := b1.size
 have HN2s := HN2.out.size
 clear hO b1 k1 k2 k3 k4 hv3 HM1b HM2 HV1b HV2 HN2 HX2b c0 c1 kk HNW HB3
 go_upto_region 6 with (refine wpList_store_row rfl 32 (.tmp 11) _ rfl V3.heap.size (scT (Qp n hh) d13 m13 e13 d23 m23 e23 d33 m33 e33) rfl rfl _ _ HL3.out (by kernel_rfl) rfl (Qn _ _ _ _ _ _ _ _ _ _) ?_)
 generalize ((V3.alloc (.cells zA 32)).setRow V3.heap.size (scT (Qp n hh) d13 m13 e13 d23 m23 e23 d33 m33 e33)) = X3 at *
 clear HL3
 have g21 := (Qh HM1c.out).2.1.2.2.2.2.2.2.2.2.2.2
 have h21 := (Qh HM3.out).2.1.2.2.2.2.2.2.2.2.2.2
 have f21 := (Qh HM3.out).2.2 21
 have HY3 : Hid ((X3.setCell ⟨V3.heap.size, 21, none⟩ (.slice d31 m31 e31)).heap[V3.heap.size]? = some (.cells (scT (Xt s1 n hh) d13 m13 e13 d23 m23 e23 d31 m31 e31) 32 (0, 0))) := Xn HM3.out rfl
 have HY2 : Hid ((X3.setCell ⟨V3.heap.size, 21, none⟩ (.slice d31 m31 e31)).heap[V2.heap.size]? = _) := (Q4 (by omega)).trans HM2c.out
 have HW1 : Hid _ := Qo.off (W' := X3.setCell ⟨V3.heap.size, 21, none⟩ (.slice d31 m31 e31)) HV1c.out HM3.out Ql (Nat.zero_le _) fun k hk => Q4 hk
 have HW2 : Hid _ := Qo.off (W' := X3.setCell ⟨V3.heap.size, 21, none⟩ (.slice d31 m31 e31)) HV2c.out HM3.out Ql (Nat.zero_le _) fun k hk => Q4 hk
 have HW3 : Hid _ := Qo.off (W' := X3.setCell ⟨V3.heap.size, 21, none⟩ (.slice d31 m31 e31)) HV3.out HM3.out Ql (Nat.zero_le _) fun k hk => Q4 hk
 have HBX : Hid (Below w.heap.size w (X3.setCell ⟨V3.heap.size, 21, none⟩ (.slice d31 m31 e31))) := HN3.out.setCell (show w.heap.size ≤ V3.heap.size by omega) _
 have HVN : Hid (Zh (X3.setCell ⟨V3.heap.size, 21, none⟩ (.slice d31 m31 e31)) (Xt s1 n hh) (.slice d13 m13 e13) (.slice d23 m23 e23) (.slice d31 m31 e31)) := ⟨HW3.out.scr.c, HW3.out.scr.t, HW1.out.scr.g⟩
 clear HM1c HM2c HM3 HV1c HV2c HV3 HN3
 go_upto_region 7 with fail
 clear g21 h21 f21
 generalize X3.setCell ⟨V3.heap.size, 21, none⟩ (.slice d31 m31 e31) = X4 at *
 go_wp2_with (first
  | (refine BigFrame.wpList_want rfl fun K hK => wp_load_row 32 (.tmp 8) rfl V2.heap.size rfl _ _ _ _ HY2.out Tryz.underlying32 rfl (by kernel_rfl) (hK _ _ ?_))
  | (refine BigFrame.wpList_want rfl fun K hK => wp_load_row 32 (.tmp 11) rfl V3.heap.size rfl _ _ _ _ HY3.out Tryz.underlying32 rfl (by kernel_rfl) (hK _ _ ?_)))
 refine (qf1 (Xt s1 n hh) _ _ _ _ _ _ X4 HW2.out.scr HVN.out HSM.out).mono ?_
 rintro e V6 ⟨rfl, b6⟩
 have HBV6 : Hid (Below w.heap.size w V6) := HBX.out.trans (b6.mono HBX.out.size)
 clear b6
 go_wp2_with fail
 go_ret
 exact ⟨rfl, HBV6.out⟩
set_option maxHeartbeats 8000000 in
theorem qtg (s : Scr) (cv tv gv : Value) (b : ByteArray) (w : World) (hT : Tb w) (hV : Zh w s cv tv gv) (hF : Fits s) (hz : Qk s ≠ 0) :
  Calls Tryz.prog 4 #[.agg (scrA s cv tv gv), .string b] w fun e w' => e = .returned (.bool true) ∧ Below w.heap.size w w' := by
 have x0 := heap_alloc_new w (.cells (scrA s cv tv gv) 32)
 have kb : Below w.heap.size w (w.alloc (.cells (scrA s cv tv gv) 32)) := (Below.refl _ _).alloc (Nat.le_refl _) _
 have HP : Hid (∀ W, Below w.heap.size w W → Calls Tryz.prog 6 #[] W fun e w' => e = .returned (.bool true) ∧ Below W.heap.size W w') := fun W h => qap W (hT.next h).t
 have HCK : Hid (∀ W, Below w.heap.size w W → Calls Tryz.prog 7 #[.agg (scrA s cv tv gv)] W fun e w' => e = .returned (.int .i64 (Qk s)) ∧ Below W.heap.size W w') := fun W h => Zq s cv tv gv W (hT.next h).t (hV.next h) hF
 have hz1 : (Qk s != 0) = true := by simp [hz]
 have HX0 : Hid _ := x0
 have HKB : Hid _ := kb
 clear x0 kb hT hV hF hz
 generalize Qk s = er at *
 go_enter Tryz.func4, Tryz.ntmps4
 go_wp2_with fail
 refine (HP.out _ HKB.out).mono ?_
 rintro e U1 ⟨rfl, b1⟩
 have HBU1 : Hid (Below w.heap.size w U1) := HKB.out.trans (b1.mono HKB.out.size)
 have HXU1 : Hid (U1.heap[w.heap.size]? = _) := Grd.carry HX0.out b1
 clear b1 HX0 HKB
 go_wp2_with (refine BigFrame.wpList_want rfl fun K hK => wp_load_row 32 (.tmp 2) rfl w.heap.size rfl _ _ _ _ HXU1.out Tryz.underlying32 rfl (by kernel_rfl) (hK _ _ ?_))
 refine (HCK.out _ HBU1.out).mono ?_
 rintro e U2 ⟨rfl, b1⟩
 have HBU2 : Hid (Below w.heap.size w U2) := HBU1.out.trans (b1.mono HBU1.out.size)
 clear b1 HXU1 HBU1 HCK
 go_wp2_with fail
 refine (HP.out _ HBU2.out).mono ?_
 rintro e U3 ⟨rfl, b1⟩
 have HBU3 : Hid (Below w.heap.size w U3) := HBU2.out.trans (b1.mono HBU2.out.size)
 clear b1
 go_wp2_with fail
 go_ret
 exact ⟨rfl, HBU3.out⟩
set_option maxHeartbeats 8000000 in
theorem qpt (s : Scr) (cv tv gv : Value) (b : ByteArray) (w : World) (hT : Tb w) (hV : Zh w s cv tv gv) (hF : Fits s) (hz : Qk s = 0) (hb : 3998 < b.size) (hb2 : b.size ≤ 1048576) :
  Calls Tryz.prog 4 #[.agg (scrA s cv tv gv), .string b] w fun e w' => e = .returned (.bool true) ∧ Below w.heap.size w w' := by
 have x0 := heap_alloc_new w (.cells (scrA s cv tv gv) 32)
 have kb : Below w.heap.size w (w.alloc (.cells (scrA s cv tv gv) 32)) := (Below.refl _ _).alloc (Nat.le_refl _) _
 have HP : Hid (∀ W, Below w.heap.size w W → Calls Tryz.prog 6 #[] W fun e w' => e = .returned (.bool true) ∧ Below W.heap.size W w') := fun W h => qap W (hT.next h).t
 have HCK : Hid (∀ W, Below w.heap.size w W → Calls Tryz.prog 7 #[.agg (scrA s cv tv gv)] W fun e w' => e = .returned (.int .i64 0) ∧ Below W.heap.size W w') := fun W h => by
  have := Zq s cv tv gv W (hT.next h).t (hV.next h) hF
  rwa [hz] at this
 have hlt : ((3998 : Int) < (b.size : Int)) := by omega
 have HX0 : Hid _ := x0
 have HKB : Hid _ := kb
 clear x0 kb hT hV hF hz hb
 go_enter Tryz.func4, Tryz.ntmps4
 go_wp2_with fail
 refine (HP.out _ HKB.out).mono ?_
 rintro e U1 ⟨rfl, b1⟩
 have HBU1 : Hid (Below w.heap.size w U1) := HKB.out.trans (b1.mono HKB.out.size)
 have HXU1 : Hid (U1.heap[w.heap.size]? = _) := Grd.carry HX0.out b1
 clear b1 HX0 HKB
 go_wp2_with (refine BigFrame.wpList_want rfl fun K hK => wp_load_row 32 (.tmp 2) rfl w.heap.size rfl _ _ _ _ HXU1.out Tryz.underlying32 rfl (by kernel_rfl) (hK _ _ ?_))
 refine (HCK.out _ HBU1.out).mono ?_
 rintro e U2 ⟨rfl, b1⟩
 have HBU2 : Hid (Below w.heap.size w U2) := HBU1.out.trans (b1.mono HBU1.out.size)
 clear b1 HXU1 HBU1 HCK
 go_wp2_with fail
 refine (HP.out _ HBU2.out).mono ?_
 rintro e U3 ⟨rfl, b1⟩
 have HBU3 : Hid (Below w.heap.size w U3) := HBU2.out.trans (b1.mono HBU2.out.size)
 clear b1
 go_wp2_with fail
 go_ret
 exact ⟨rfl, HBU3.out⟩
theorem screenReset_walk (s : Scr) (cv tv gv : Value) (b : ByteArray) (w : World) (hT : Tb w) (hV : Zh w s cv tv gv) (hF : Fits s) (hb : b.size ≤ 1048576) :
  Calls Tryz.prog 4 #[.agg (scrA s cv tv gv), .string b] w fun e w' => e = .returned (.bool true) ∧ Below w.heap.size w w' := by
 by_cases hz : Qk s = 0
 ·by_cases hl : b.size ≤ 3998
  ·obtain ⟨n, hh, hR⟩ := qvl s hz
   exact qqx s cv tv gv b w hT hV n hh hR hl
  ·exact qpt s cv tv gv b w hT hV hF hz (by omega) hb
 ·exact qtg s cv tv gv b w hT hV hF hz
end Put
end Go.Proofs.YtcnblcmpgmgbbaaGreatDoor
