/- Parts of the proof, shortened by a program. -/
import Derived.Test.YtooobiigijphkaaGreatDoorPartQ
import Derived.Test.YtooobiigijphkaaGreatDoorPartH
set_option maxHeartbeats 8000000
open Nat renaming le_refl → qd
open List renaming replicate → qe
open Go renaming heap_alloc_new → qf, wpList_store_row → qh, below_setRow → qi, setRow_heap → qj, bodyPost_ret → qk, results_cell_row → qn
open Go.RowKit.Below renaming refl → qr
open Go.Proofs.Tryz renaming prog → qP
namespace Go.Proofs.YtooobiigijphkaaGreatDoor
set_option linter.unusedVariables false
set_option linter.unusedSimpArgs false
set_option maxRecDepth 100000
open Go.ChangeShapes Go.WideShapes Go.ChangeAt Go.RowKit
namespace Prs
theorem qmx (x : UInt8) {w0 : World} {R T : Nat} {s : St} {es : List Ev} {W : World} (h : RdE w0 R T s es W) (h0 : s.ps = []) :
  Calls qP 124 #[.pointer (some ⟨R,0,none⟩),.int .u8 (x.toNat : Int)] W fun e W' => e = .returned (.tuple #[]) ∧ RdE w0 R T (Kn s x) es W' := by
 obtain ⟨N,pv,tv,eqs,h⟩ := h;have hp := h.p;rw [h0] at hp;obtain ⟨a,c,rfl⟩ := Gg hp;obtain ⟨c0,c1,c2,c3,c4,c5,c6,c7,cf⟩ := h.cells
 change W.cell? ⟨R,3,none⟩ = some (.slice a 0 c) at c3
 have HE : Hid (Kn s x = if Ja x then { s with ps := digit [-1] x } else { s with ps := [-1] ++ [-1] }) := by
  unfold Hid Kn;rw [h0,qt4]
  rfl
 generalize Kn s x = res at HE ⊢;obtain ⟨i0,hi,hzz⟩ := Option.map_eq_some_iff.1 qgl;simp only [Prod.mk.injEq] at hzz;obtain ⟨hz0,hz1,hz2⟩ := hzz;have HH : Hid (Rd w0 R T s es W N (.slice a 0 c) tv eqs) := h;have hown : W.ownsRow N 3 1 (.slice a 0 c) 0 [] := hp;have hN1 := h.n1;have hRl := Xj h.r;have HNE : Hid ((Value.slice a 0 c).ownBlock ≠ some R) := qap h.p h.r (by decide)
 have HC3 : Hid (W.heap[R]? = _) := h.r;have hx8 := x.toNat_lt;have hl0 : (([] : List Int).length : Int) = 0 := rfl;clear h hp
 cases hd : Ja x with
 | true =>
  have hdd : 48 ≤ x.toNat ∧ x.toNat ≤ 57 := by simpa [Ja] using hd
  go_enter Tryz.func124,Tryz.ntmps124
  go_wp2_with (at_builtin; refine wpList_append_own _ rfl _ _ 33 rfl N 3 i0 (.int .i64 0) 1 8 qam hi hz0 hz1 hz2 rfl (by decide) (.slice a 0 c) 0 [] rfl (hown.alloc _) ⟨W.heap.size, 0, none⟩ 1 1 [.int .i64 (-1)] rfl rfl (cells_of_block (qf W _)) (by intro u hu; simp at hu; rw [hu]; rfl) (by unfold maxLen; omega) (by omega) (by simp; omega) ?_
               intro v3 W3 hown3 hgrow hnil;obtain ⟨g3,c3',rfl⟩ := U7 hown3 (by omega)
               have hR3 : W3.heap[R]? = some (.cells (Yw s (.slice a 0 c) T) 74 (0,0)) := (hgrow.block R (by simp;omega) (fun e => HNE.out e.symm)).trans ((Below.heap_alloc _ _ _ hRl).trans HC3.out)
               unfold Yw at hR3;obtain ⟨e0,e1,e2,e3,e4,e5,e6,e7,ef⟩ := qak hR3;have ef3 := ef 3;have HZ : Hid (Rd w0 R T { s with ps := [-1] } es (W3.setCell ⟨R,3,none⟩ (.slice (some ⟨g3,0,none⟩) (0 + 1) c3')) N (.slice (some ⟨g3,0,none⟩) (0 + 1) c3') tv eqs) := HH.out.nums ((qr _ _).alloc (qd _) _) [-1] hown3 hgrow
               obtain ⟨z0,z1,z2,z3,z4,z5,z6,z7,zf⟩ := HZ.out.cells;have zc : (W3.setCell ⟨R,3,none⟩ (.slice (some ⟨g3,0,none⟩) (0 + 1) c3')).cell? ⟨g3,0,none⟩ = some (.int .i64 (-1)) := (HZ.out.p.cellAt 0 (by decide)).trans rfl
               have zz : (W3.setCell ⟨R,3,none⟩ (.slice (some ⟨g3,0,none⟩) (0 + 1) c3')).frozen? ⟨g3,0,none⟩ = false := HZ.out.p.frozenAt 0)
  have HD := Ui x (W3.setCell ⟨R,3,none⟩ (.slice (some ⟨g3,0,none⟩) (0 + 1) c3'));rw [hd] at HD;refine HD.mono ?_;rintro e w1 ⟨rfl,hw1⟩;rw [hw1];clear hw1 w1 HD;generalize hZ : W3.setCell ⟨R,3,none⟩ (.slice (some ⟨g3,0,none⟩) (0 + 1) c3') = Z at *;clear e0 e1 e2 e3 e4 e5 e6 e7 ef ef3 hZ;go_wp2_with fail;go_region;go_wp2_with fail;go_end0;rw [HE.out,if_pos hd];exact ⟨rfl,_,_,_,_,(HZ.out.qyk 0 _).below ((qr _ _).drew)⟩
 | false =>
  go_enter Tryz.func124,Tryz.ntmps124
  go_wp2_with (at_builtin; refine wpList_append_own _ rfl _ _ 33 rfl N 3 i0 (.int .i64 0) 1 8 qam hi hz0 hz1 hz2 rfl (by decide) (.slice a 0 c) 0 [] rfl (hown.alloc _) ⟨W.heap.size, 0, none⟩ 1 1 [.int .i64 (-1)] rfl rfl (cells_of_block (qf W _)) (by intro u hu; simp at hu; rw [hu]; rfl) (by unfold maxLen; omega) (by omega) (by simp; omega) ?_
               intro v3 W3 hown3 hgrow hnil;obtain ⟨g3,c3',rfl⟩ := U7 hown3 (by omega)
               have hR3 : W3.heap[R]? = some (.cells (Yw s (.slice a 0 c) T) 74 (0,0)) := (hgrow.block R (by simp;omega) (fun e => HNE.out e.symm)).trans ((Below.heap_alloc _ _ _ hRl).trans HC3.out)
               unfold Yw at hR3;obtain ⟨e0,e1,e2,e3,e4,e5,e6,e7,ef⟩ := qak hR3;have ef3 := ef 3;have HZ : Hid (Rd w0 R T { s with ps := [-1] } es (W3.setCell ⟨R,3,none⟩ (.slice (some ⟨g3,0,none⟩) (0 + 1) c3')) N (.slice (some ⟨g3,0,none⟩) (0 + 1) c3') tv eqs) := HH.out.nums ((qr _ _).alloc (qd _) _) [-1] hown3 hgrow
               obtain ⟨z0,z1,z2,z3,z4,z5,z6,z7,zf⟩ := HZ.out.cells;have zc : (W3.setCell ⟨R,3,none⟩ (.slice (some ⟨g3,0,none⟩) (0 + 1) c3')).cell? ⟨g3,0,none⟩ = some (.int .i64 (-1)) := (HZ.out.p.cellAt 0 (by decide)).trans rfl
               have zz : (W3.setCell ⟨R,3,none⟩ (.slice (some ⟨g3,0,none⟩) (0 + 1) c3')).frozen? ⟨g3,0,none⟩ = false := HZ.out.p.frozenAt 0)
  have HD := Ui x (W3.setCell ⟨R,3,none⟩ (.slice (some ⟨g3,0,none⟩) (0 + 1) c3'));rw [hd] at HD;refine HD.mono ?_;rintro e w1 ⟨rfl,hw1⟩;rw [hw1];clear hw1 w1 HD;have hown5 := HZ.out.p;have hn5 := HZ.out.n1;have HR5 : Hid (_ = _) := HZ.out.r;have hr5 := Xj HZ.out.r;have HNE5 : Hid ((Value.slice (some ⟨g3,0,none⟩) (0 + 1) c3').ownBlock ≠ some R) := qap HZ.out.p HZ.out.r (by decide)
  generalize hZ : W3.setCell ⟨R,3,none⟩ (.slice (some ⟨g3,0,none⟩) (0 + 1) c3') = Z at *;clear e0 e1 e2 e3 e4 e5 e6 e7 ef ef3 hZ hown
  go_wp2_with (at_builtin; refine wpList_append_own _ rfl _ _ 33 rfl N 3 i0 (.int .i64 0) 1 8 qam hi hz0 hz1 hz2 rfl (by decide) (.slice (some ⟨g3, 0, none⟩) 1 c3') 1 [.int .i64 (-1)] rfl (hown5.alloc _) ⟨Z.heap.size, 0, none⟩ 1 1 [.int .i64 (-1)] rfl rfl (cells_of_block (qf Z _)) (by intro u hu; simp at hu; rw [hu]; rfl) (by unfold maxLen; omega) (by omega) (by simp; omega) ?_
               intro v6 W6 hown6 hgrow6 hnil6;obtain ⟨g6,c6',rfl⟩ := U7 hown6 (by omega)
               have hR6 : W6.heap[R]? = some (.cells (Yw { s with ps := [-1] } (.slice (some ⟨g3,0,none⟩) (0 + 1) c3') T) 74 (0,0)) := (hgrow6.block R (by simp;omega) (fun e => HNE5.out e.symm)).trans ((Below.heap_alloc _ _ _ hr5).trans HR5.out)
               unfold Yw at hR6;obtain ⟨e0,e1,e2,e3,e4,e5,e6,e7,ef⟩ := qak hR6
               have ef3 := ef 3)
  go_end0;rw [HE.out,if_neg (by rw [hd];decide)]
  exact ⟨rfl,_,_,_,_,HZ.out.nums ((qr _ _).alloc (qd _) _) ([-1] ++ [-1]) hown6 hgrow6⟩
theorem Vl (x : UInt8) {w0 : World} {R T : Nat} {s : St} {es : List Ev} {W : World} (h : RdE w0 R T s es W) (h16 : s.ps.length ≤ 16) (hlo : ∀ y, y ∈ s.ps → y ≤ 9999) :
  Calls qP 124 #[.pointer (some ⟨R,0,none⟩),.int .u8 (x.toNat : Int)] W fun e W' => e = .returned (.tuple #[]) ∧ RdE w0 R T (Kn s x) es W' := by
 by_cases h0 : s.ps = []
 ·exact qmx x h h0
 ·exact qo0 x h h0 h16 hlo
theorem qfu {w : World} {base base' : Nat} {e : TypeId} {size : Nat} {v : Value} {n : Nat} {xs : List Value} (h : w.ownsRow base e size v n xs) (hb : base' ≤ base) : w.ownsRow base' e size v n xs := by
 refine ⟨h.1,?_⟩
 rcases h.2 with h2 | ⟨g,cap,cur,hv,hg,r⟩
 ·exact .inl h2
 ·exact .inr ⟨g,cap,cur,hv,Nat.le_trans hb hg,r⟩
theorem qhy (x : UInt8) {w0 : World} {R T : Nat} {s : St} {es : List Ev} {W : World} (h : RdE w0 R T s es W) (hn : es.length ≤ 1000000) (h16 : s.ps.length ≤ 16) (hlo : ∀ y, y ∈ s.ps → y ≤ 9999) :
  Calls qP 84 #[.pointer (some ⟨R,0,none⟩),.int .u8 (x.toNat : Int)] W fun e W' => e = .returned (.tuple #[]) ∧ RdE w0 R T (J2 s x).1 (es ++ (J2 s x).2) W' := by
 have HP := Vl x h h16 hlo;obtain ⟨N,pv,tv,eqs,h⟩ := h;obtain ⟨c0,c1,c2,c3,c4,c5,c6,c7,cf⟩ := h.cells;obtain ⟨pa,pc,rfl⟩ := Gg h.p;have cf1 := cf 1;have HE : Hid (J2 s x = if (Ja x = true ∨ x.toNat = 59) ∧ s.mid.size = 0 then (Kn s x,[]) else if Xa x.toNat = true ∧ s.mark = 0 ∧ s.ps = [] ∧ s.mid.size = 0 then ({ s with mark := x.toNat },[]) else if Zx x = true ∧ s.mid.size < 2 then ({ s with mid := s.mid ++ one x },[]) else if 128 ≤ x.toNat then (bare 0,[]) else if 64 ≤ x.toNat then (bare 0,[⟨4,0,x.toNat,s.mark,s.mid,s.ps,nt⟩]) else (bare 5,[])) := rfl
 generalize J2 s x = res at HE ⊢;have hx8 := x.toNat_lt;have iD : Ja x = true ↔ 48 ≤ x.toNat ∧ x.toNat ≤ 57 := by simp [Ja]
 have iM : Zx x = true ↔ 32 ≤ x.toNat ∧ x.toNat ≤ 47 := by simp [Zx]
 have iK : Xa x.toNat = true ↔ 60 ≤ x.toNat ∧ x.toNat ≤ 63 := by simp [Xa];omega
 have HD := Ui x W;have HM := Ga x W;have HK := Gw x.toNat W;have he := qds s.mid;have HX0 := Z9 0 h;have HX5 := Z9 5 h;have HI : Hid ((Ja x = true ↔ 48 ≤ x.toNat ∧ x.toNat ≤ 57) ∧ (Zx x = true ↔ 32 ≤ x.toNat ∧ x.toNat ≤ 47) ∧ (Xa x.toNat = true ↔ 60 ≤ x.toNat ∧ x.toNat ≤ 63)) := ⟨iD,iM,iK⟩
 by_cases d1 : 48 ≤ x.toNat ∧ x.toNat ≤ 57
 ·by_cases z0 : s.mid.size = 0
  ·skip
   have hD : Ja x = true := by rw [HI.out.1];omega
   have hM : Zx x = false := by rw [← Bool.not_eq_true,HI.out.2.1];omega
   have hK : Xa x.toNat = false := by rw [← Bool.not_eq_true,HI.out.2.2];omega
   rw [hD] at HD;rw [hM] at HM;rw [hK] at HK;have hm0 : (s.mid.toList == []) = true := by rw [he,decide_eq_true_eq];exact z0
   clear h;clear HI;go_enter Tryz.func84,Tryz.ntmps84;go_wp2_with fail;refine HD.mono ?_;rintro e w1 ⟨rfl,hw1⟩;rw [hw1];clear hw1 w1;go_wp2_with fail;refine HP.mono ?_;rintro e W1 ⟨rfl,h1⟩;go_wp2_with fail;go_end0;rw [HE.out,if_pos ⟨.inl hD,z0⟩];exact ⟨rfl,by rw [List.append_nil];exact h1⟩
  ·skip
   have hD : Ja x = true := by rw [HI.out.1];omega
   have hM : Zx x = false := by rw [← Bool.not_eq_true,HI.out.2.1];omega
   have hK : Xa x.toNat = false := by rw [← Bool.not_eq_true,HI.out.2.2];omega
   rw [hD] at HD;rw [hM] at HM;rw [hK] at HK;have hm0 : (s.mid.toList == []) = false := by rw [he,decide_eq_false_iff_not];exact z0
   have y128 : ¬ (128 : Int) ≤ (x.toNat : Int) := by omega
   have y64 : ¬ (64 : Int) ≤ (x.toNat : Int) := by omega
   clear h;clear HI;go_enter Tryz.func84,Tryz.ntmps84;go_wp2_with fail;refine HD.mono ?_;rintro e w1 ⟨rfl,hw1⟩;rw [hw1];clear hw1 w1;go_wp2_with fail;refine HK.mono ?_;rintro e w1 ⟨rfl,hw1⟩;rw [hw1];clear hw1 w1;go_wp2_with fail;refine HM.mono ?_;rintro e w1 ⟨rfl,hw1⟩;rw [hw1];clear hw1 w1;go_wp2_with fail;refine HX5.mono ?_;rintro e W1 ⟨rfl,-,h1⟩;go_wp2_with fail;go_end0;rw [HE.out,if_neg (fun q => z0 q.2),if_neg (by rw [hK];simp),if_neg (by rw [hM];simp),if_neg (by omega),if_neg (by omega)]
   exact ⟨rfl,_,_,_,_,by rw [List.append_nil];exact h1⟩
 ·by_cases d2 : x.toNat = 59
  ·by_cases z0 : s.mid.size = 0
   ·skip
    have hD : Ja x = false := by rw [← Bool.not_eq_true,HI.out.1];omega
    have hM : Zx x = false := by rw [← Bool.not_eq_true,HI.out.2.1];omega
    have hK : Xa x.toNat = false := by rw [← Bool.not_eq_true,HI.out.2.2];omega
    rw [hD] at HD;rw [hM] at HM;rw [hK] at HK;have hm0 : (s.mid.toList == []) = true := by rw [he,decide_eq_true_eq];exact z0
    have b59 : ((x.toNat : Int) == 59) = true := by rw [beq_iff_eq];omega
    have D2 : Hid (x.toNat = 59) := d2;clear d1 d2;clear h;clear HI;go_enter Tryz.func84,Tryz.ntmps84;go_wp2_with fail;refine HD.mono ?_;rintro e w1 ⟨rfl,hw1⟩;rw [hw1];clear hw1 w1;go_wp2_with fail;refine HP.mono ?_;rintro e W1 ⟨rfl,h1⟩;go_wp2_with fail;go_end0;rw [HE.out,if_pos ⟨.inr D2.out,z0⟩];exact ⟨rfl,by rw [List.append_nil];exact h1⟩
   ·skip
    have hD : Ja x = false := by rw [← Bool.not_eq_true,HI.out.1];omega
    have hM : Zx x = false := by rw [← Bool.not_eq_true,HI.out.2.1];omega
    have hK : Xa x.toNat = false := by rw [← Bool.not_eq_true,HI.out.2.2];omega
    rw [hD] at HD;rw [hM] at HM;rw [hK] at HK;have hm0 : (s.mid.toList == []) = false := by rw [he,decide_eq_false_iff_not];exact z0
    have b59 : ((x.toNat : Int) == 59) = true := by rw [beq_iff_eq];omega
    have y128 : ¬ (128 : Int) ≤ (x.toNat : Int) := by omega
    have y64 : ¬ (64 : Int) ≤ (x.toNat : Int) := by omega
    have D2 : Hid (x.toNat = 59) := d2;clear d1 d2;clear h;clear HI;go_enter Tryz.func84,Tryz.ntmps84;go_wp2_with fail;refine HD.mono ?_;rintro e w1 ⟨rfl,hw1⟩;rw [hw1];clear hw1 w1;go_wp2_with fail;refine HK.mono ?_;rintro e w1 ⟨rfl,hw1⟩;rw [hw1];clear hw1 w1;go_wp2_with fail;refine HM.mono ?_;rintro e w1 ⟨rfl,hw1⟩;rw [hw1];clear hw1 w1;go_wp2_with fail;refine HX5.mono ?_;rintro e W1 ⟨rfl,-,h1⟩;go_wp2_with fail;go_end0;rw [HE.out,if_neg (fun q => z0 q.2),if_neg (by rw [hK];simp),if_neg (by rw [hM];simp),if_neg (by have := D2.out;omega),if_neg (by have := D2.out;omega)]
    exact ⟨rfl,_,_,_,_,by rw [List.append_nil];exact h1⟩
  ·have y59 : ¬ (x.toNat : Int) = 59 := by omega
   have b59 : ((x.toNat : Int) == 59) = false := by rw [beq_eq_false_iff_ne];exact y59
   by_cases d3 : 60 ≤ x.toNat ∧ x.toNat ≤ 63
   ·by_cases k0 : s.mark = 0
    ·by_cases p0 : s.ps = []
     ·by_cases z0 : s.mid.size = 0
      ·skip
       have hD : Ja x = false := by rw [← Bool.not_eq_true,HI.out.1];omega
       have hM : Zx x = false := by rw [← Bool.not_eq_true,HI.out.2.1];omega
       have hK : Xa x.toNat = true := by rw [HI.out.2.2];omega
       rw [hD] at HD;rw [hM] at HM;rw [hK] at HK;have hm0 : (s.mid.toList == []) = true := by rw [he,decide_eq_true_eq];exact z0
       have HF : Hid (Rd w0 R T { s with mark := (x.toNat : Int) } es (W.setCell ⟨R,1,none⟩ (.int .u8 (x.toNat : Int))) N (.slice pa s.ps.length pc) tv eqs) := h.marks x.toNat
       have hp0 : (s.ps.length : Int) = 0 := by rw [p0];rfl
       have bk0 : (s.mark == 0) = true := by rw [beq_iff_eq];exact k0
       have P0 : Hid (s.ps = []) := p0;have K0 : Hid (s.mark = 0) := k0;clear p0 k0;clear h;clear HI;go_enter Tryz.func84,Tryz.ntmps84;go_wp2_with fail;refine HD.mono ?_;rintro e w1 ⟨rfl,hw1⟩;rw [hw1];clear hw1 w1;go_wp2_with fail;refine HK.mono ?_;rintro e w1 ⟨rfl,hw1⟩;rw [hw1];clear hw1 w1;go_wp2_with fail;go_end0;rw [HE.out,if_neg (by rw [hD];simp;omega),if_pos ⟨hK,K0.out,P0.out,z0⟩]
       exact ⟨rfl,_,_,_,_,by rw [List.append_nil];exact HF.out⟩
      ·skip
       have hD : Ja x = false := by rw [← Bool.not_eq_true,HI.out.1];omega
       have hM : Zx x = false := by rw [← Bool.not_eq_true,HI.out.2.1];omega
       have hK : Xa x.toNat = true := by rw [HI.out.2.2];omega
       rw [hD] at HD;rw [hM] at HM;rw [hK] at HK;have hm0 : (s.mid.toList == []) = false := by rw [he,decide_eq_false_iff_not];exact z0
       have y128 : ¬ (128 : Int) ≤ (x.toNat : Int) := by omega
       have y64 : ¬ (64 : Int) ≤ (x.toNat : Int) := by omega
       have hp0 : (s.ps.length : Int) = 0 := by rw [p0];rfl
       have bk0 : (s.mark == 0) = true := by rw [beq_iff_eq];exact k0
       clear p0 k0;clear h;clear HI;go_enter Tryz.func84,Tryz.ntmps84;go_wp2_with fail;refine HD.mono ?_;rintro e w1 ⟨rfl,hw1⟩;rw [hw1];clear hw1 w1;go_wp2_with fail;refine HK.mono ?_;rintro e w1 ⟨rfl,hw1⟩;rw [hw1];clear hw1 w1;go_wp2_with fail;refine HM.mono ?_;rintro e w1 ⟨rfl,hw1⟩;rw [hw1];clear hw1 w1;go_wp2_with fail;refine HX5.mono ?_;rintro e W1 ⟨rfl,-,h1⟩;go_wp2_with fail;go_end0;rw [HE.out,if_neg (by rw [hD];simp;omega),if_neg (fun q => z0 q.2.2.2),if_neg (by rw [hM];simp),if_neg (by omega),if_neg (by omega)]
       exact ⟨rfl,_,_,_,_,by rw [List.append_nil];exact h1⟩
     ·skip
      have hD : Ja x = false := by rw [← Bool.not_eq_true,HI.out.1];omega
      have hM : Zx x = false := by rw [← Bool.not_eq_true,HI.out.2.1];omega
      have hK : Xa x.toNat = true := by rw [HI.out.2.2];omega
      rw [hD] at HD;rw [hM] at HM;rw [hK] at HK;have y128 : ¬ (128 : Int) ≤ (x.toNat : Int) := by omega
      have y64 : ¬ (64 : Int) ≤ (x.toNat : Int) := by omega
      have hp0 : ¬ (s.ps.length : Int) = 0 := fun q => p0 (List.length_eq_zero_iff.1 (by omega))
      have bp0 : ((s.ps.length : Int) == 0) = false := by rw [beq_eq_false_iff_ne];exact hp0
      have bk0 : (s.mark == 0) = true := by rw [beq_iff_eq];exact k0
      have P0 : Hid (s.ps ≠ []) := p0;clear p0 k0;clear h;clear HI;go_enter Tryz.func84,Tryz.ntmps84;go_wp2_with fail;refine HD.mono ?_;rintro e w1 ⟨rfl,hw1⟩;rw [hw1];clear hw1 w1;go_wp2_with fail;refine HK.mono ?_;rintro e w1 ⟨rfl,hw1⟩;rw [hw1];clear hw1 w1;go_wp2_with fail;refine HM.mono ?_;rintro e w1 ⟨rfl,hw1⟩;rw [hw1];clear hw1 w1;go_wp2_with fail;refine HX5.mono ?_;rintro e W1 ⟨rfl,-,h1⟩;go_wp2_with fail;go_end0;rw [HE.out,if_neg (by rw [hD];simp;omega),if_neg (fun q => P0.out q.2.2.1),if_neg (by rw [hM];simp),if_neg (by omega),if_neg (by omega)]
      exact ⟨rfl,_,_,_,_,by rw [List.append_nil];exact h1⟩
    ·skip
     have hD : Ja x = false := by rw [← Bool.not_eq_true,HI.out.1];omega
     have hM : Zx x = false := by rw [← Bool.not_eq_true,HI.out.2.1];omega
     have hK : Xa x.toNat = true := by rw [HI.out.2.2];omega
     rw [hD] at HD;rw [hM] at HM;rw [hK] at HK;have y128 : ¬ (128 : Int) ≤ (x.toNat : Int) := by omega
     have y64 : ¬ (64 : Int) ≤ (x.toNat : Int) := by omega
     have bk0 : (s.mark == 0) = false := by rw [beq_eq_false_iff_ne];exact k0
     clear h;clear HI;go_enter Tryz.func84,Tryz.ntmps84;go_wp2_with fail;refine HD.mono ?_;rintro e w1 ⟨rfl,hw1⟩;rw [hw1];clear hw1 w1;go_wp2_with fail;refine HK.mono ?_;rintro e w1 ⟨rfl,hw1⟩;rw [hw1];clear hw1 w1;go_wp2_with fail;refine HM.mono ?_;rintro e w1 ⟨rfl,hw1⟩;rw [hw1];clear hw1 w1;go_wp2_with fail;refine HX5.mono ?_;rintro e W1 ⟨rfl,-,h1⟩;go_wp2_with fail;go_end0;rw [HE.out,if_neg (by rw [hD];simp;omega),if_neg (fun q => k0 q.2.1),if_neg (by rw [hM];simp),if_neg (by omega),if_neg (by omega)]
     exact ⟨rfl,_,_,_,_,by rw [List.append_nil];exact h1⟩
   ·by_cases d4 : 32 ≤ x.toNat ∧ x.toNat ≤ 47
    ·by_cases z2 : s.mid.size < 2
     ·skip
      have hD : Ja x = false := by rw [← Bool.not_eq_true,HI.out.1];omega
      have hM : Zx x = true := by rw [HI.out.2.1];omega
      have hK : Xa x.toNat = false := by rw [← Bool.not_eq_true,HI.out.2.2];omega
      rw [hD] at HD;rw [hM] at HM;rw [hK] at HK;have z2i : (s.mid.size : Int) < 2 := by omega
      have hsz : ¬ 9223372036854775807 < s.mid.size + (one x).size := by show ¬ _ < s.mid.size + 1;omega
      have kd : Below W.heap.size W W.drew := (qr _ _).drew;have HH : Hid (Rd w0 R T s es W.drew N (.slice pa s.ps.length pc) tv eqs) := h.below kd;clear h;clear HI;go_enter Tryz.func84,Tryz.ntmps84;go_wp2_with fail;refine HD.mono ?_;rintro e w1 ⟨rfl,hw1⟩;rw [hw1];clear hw1 w1;go_wp2_with fail;refine HK.mono ?_;rintro e w1 ⟨rfl,hw1⟩;rw [hw1];clear hw1 w1;go_wp2_with fail;refine HM.mono ?_;rintro e w1 ⟨rfl,hw1⟩;rw [hw1];clear hw1 w1;go_wp2_with fail;go_region_with (go_at_call 120;refine (Gz x _).mono ?_;rintro e W1 ⟨rfl,b1⟩;obtain ⟨d0,d1,d2,d3,d4,d5,d6,d7,df⟩ := (HH.out.below b1).cells;have df2 := df 2)
      all_goals go_wp2_with fail
      all_goals go_end0
      all_goals rw [HE.out,if_neg (by rw [hD];simp;omega),if_neg (by rw [hK];simp),if_pos ⟨hM,z2⟩]
      all_goals exact ⟨rfl,_,_,_,_,by rw [List.append_nil];exact (HH.out.below b1).mids (s.mid ++ one x)⟩
     ·skip
      have hD : Ja x = false := by rw [← Bool.not_eq_true,HI.out.1];omega
      have hM : Zx x = true := by rw [HI.out.2.1];omega
      have hK : Xa x.toNat = false := by rw [← Bool.not_eq_true,HI.out.2.2];omega
      rw [hD] at HD;rw [hM] at HM;rw [hK] at HK;have z2i : ¬ (s.mid.size : Int) < 2 := by omega
      have y128 : ¬ (128 : Int) ≤ (x.toNat : Int) := by omega
      have y64 : ¬ (64 : Int) ≤ (x.toNat : Int) := by omega
      clear h;clear HI;go_enter Tryz.func84,Tryz.ntmps84;go_wp2_with fail;refine HD.mono ?_;rintro e w1 ⟨rfl,hw1⟩;rw [hw1];clear hw1 w1;go_wp2_with fail;refine HK.mono ?_;rintro e w1 ⟨rfl,hw1⟩;rw [hw1];clear hw1 w1;go_wp2_with fail;refine HM.mono ?_;rintro e w1 ⟨rfl,hw1⟩;rw [hw1];clear hw1 w1;go_wp2_with fail;refine HX5.mono ?_;rintro e W1 ⟨rfl,-,h1⟩;go_wp2_with fail;go_end0;rw [HE.out,if_neg (by rw [hD];simp;omega),if_neg (by rw [hK];simp),if_neg (fun q => z2 q.2),if_neg (by omega),if_neg (by omega)]
      exact ⟨rfl,_,_,_,_,by rw [List.append_nil];exact h1⟩
    ·by_cases d5 : 128 ≤ x.toNat
     ·skip
      have hD : Ja x = false := by rw [← Bool.not_eq_true,HI.out.1];omega
      have hM : Zx x = false := by rw [← Bool.not_eq_true,HI.out.2.1];omega
      have hK : Xa x.toNat = false := by rw [← Bool.not_eq_true,HI.out.2.2];omega
      rw [hD] at HD;rw [hM] at HM;rw [hK] at HK;have y128 : (128 : Int) ≤ (x.toNat : Int) := by omega
      clear h;clear HI;go_enter Tryz.func84,Tryz.ntmps84;go_wp2_with fail;refine HD.mono ?_;rintro e w1 ⟨rfl,hw1⟩;rw [hw1];clear hw1 w1;go_wp2_with fail;refine HK.mono ?_;rintro e w1 ⟨rfl,hw1⟩;rw [hw1];clear hw1 w1;go_wp2_with fail;refine HM.mono ?_;rintro e w1 ⟨rfl,hw1⟩;rw [hw1];clear hw1 w1;go_wp2_with fail;refine HX0.mono ?_;rintro e W1 ⟨rfl,-,h1⟩;go_wp2_with fail;go_end0;rw [HE.out,if_neg (by rw [hD];simp;omega),if_neg (by rw [hK];simp),if_neg (by rw [hM];simp),if_pos d5]
      exact ⟨rfl,_,_,_,_,by rw [List.append_nil];exact h1⟩
     ·have y128 : ¬ (128 : Int) ≤ (x.toNat : Int) := by omega
      by_cases d6 : 64 ≤ x.toNat
      ·skip
       have hD : Ja x = false := by rw [← Bool.not_eq_true,HI.out.1];omega
       have hM : Zx x = false := by rw [← Bool.not_eq_true,HI.out.2.1];omega
       have hK : Xa x.toNat = false := by rw [← Bool.not_eq_true,HI.out.2.2];omega
       rw [hD] at HD;rw [hM] at HM;rw [hK] at HK;have y64 : (64 : Int) ≤ (x.toNat : Int) := by omega
       have kd : Below W.heap.size W W.drew := (qr _ _).drew;have HEN := qb9 (h.below kd) ⟨4,0,x.toNat,s.mark,s.mid,s.ps,nt⟩ (.slice pa s.ps.length pc) (qfu (h.below kd).p h.n0) rfl hn;have HEN2 : Hid (Calls qP 122 #[.pointer (some ⟨R,0,none⟩),.agg #[.int .i64 4,.int .i32 0,.int .u8 (x.toNat : Int),.int .u8 s.mark,.string s.mid,.slice pa s.ps.length pc,.string ⟨#[]⟩]] W.drew fun e W' => e = .returned (.tuple #[]) ∧ RdE w0 R T (bare 0) (es ++ [⟨4,0,x.toNat,s.mark,s.mid,s.ps,nt⟩]) W') := HEN
       clear HEN;clear h;clear HI;go_enter Tryz.func84,Tryz.ntmps84;go_wp2_with fail;refine HD.mono ?_;rintro e w1 ⟨rfl,hw1⟩;rw [hw1];clear hw1 w1;go_wp2_with fail;refine HK.mono ?_;rintro e w1 ⟨rfl,hw1⟩;rw [hw1];clear hw1 w1;go_wp2_with fail;refine HM.mono ?_;rintro e w1 ⟨rfl,hw1⟩;rw [hw1];clear hw1 w1;go_wp2_with fail;go_region_with (go_at_call 122;refine HEN2.out.mono ?_;rintro e W1 ⟨rfl,h1⟩)
       all_goals go_wp2_with fail
       all_goals go_end0
       all_goals rw [HE.out,if_neg (by rw [hD];simp;omega),if_neg (by rw [hK];simp),if_neg (by rw [hM];simp),if_neg d5,if_pos d6]
       all_goals exact ⟨rfl,h1⟩
      ·skip
       have hD : Ja x = false := by rw [← Bool.not_eq_true,HI.out.1];omega
       have hM : Zx x = false := by rw [← Bool.not_eq_true,HI.out.2.1];omega
       have hK : Xa x.toNat = false := by rw [← Bool.not_eq_true,HI.out.2.2];omega
       rw [hD] at HD;rw [hM] at HM;rw [hK] at HK;have y64 : ¬ (64 : Int) ≤ (x.toNat : Int) := by omega
       clear h;clear HI;go_enter Tryz.func84,Tryz.ntmps84;go_wp2_with fail;refine HD.mono ?_;rintro e w1 ⟨rfl,hw1⟩;rw [hw1];clear hw1 w1;go_wp2_with fail;refine HK.mono ?_;rintro e w1 ⟨rfl,hw1⟩;rw [hw1];clear hw1 w1;go_wp2_with fail;refine HM.mono ?_;rintro e w1 ⟨rfl,hw1⟩;rw [hw1];clear hw1 w1;go_wp2_with fail;refine HX5.mono ?_;rintro e W1 ⟨rfl,-,h1⟩;go_wp2_with fail;go_end0;rw [HE.out,if_neg (by rw [hD];simp;omega),if_neg (by rw [hK];simp),if_neg (by rw [hM];simp),if_neg d5,if_neg d6]
       exact ⟨rfl,_,_,_,_,by rw [List.append_nil];exact h1⟩
theorem Ky (w : World) : Calls qP 52 #[] w fun e w' => e = .returned (.agg #[.func (.func 81) #[] #[],.func (.func 82) #[] #[],.func (.func 83) #[] #[],.func (.func 84) #[] #[],.func (.func 85) #[] #[],.func (.func 86) #[] #[]]) ∧ Below w.heap.size w w' := by
 go_enter Tryz.func52,Tryz.ntmps52;go_wp2_with (refine qh rfl 101 (.tmp 0) _ rfl w.heap.size #[.func (.func 81) #[] #[],.func (.func 82) #[] #[],.func (.func 83) #[] #[],.func (.func 84) #[] #[],.func (.func 85) #[] #[],.func (.func 86) #[] #[]] rfl rfl _ _ (qf w _) (by kernel_rfl) rfl (by simp [Value.oneCell']) ?_)
 (try simp only [Exit.inBlock,Exit.then])
 refine qk (v := .agg #[.func (.func 81) #[] #[],.func (.func 82) #[] #[],.func (.func 83) #[] #[],.func (.func 84) #[] #[],.func (.func 85) #[] #[],.func (.func 86) #[] #[]]) ?_ rfl ⟨rfl,qi ((qr _ _).alloc (qd _) _) (qd _) _⟩;exact qn rfl _ _ w.heap.size _ _ _ _ rfl (qj _ _ _ _ _ _ (qf w _)) Tryz.underlying101 rfl (by kernel_rfl)
theorem Fa : Tryz.prog.underlying 101 = some (.array 6 100) := by kernel_rfl
theorem idx0 (w : World) : (Instr.index 101 (.agg #[.func (.func 81) #[] #[],.func (.func 82) #[] #[],.func (.func 83) #[] #[],.func (.func 84) #[] #[],.func (.func 85) #[] #[],.func (.func 86) #[] #[]]) (.int .i64 0)).run qP w = .ok (.func (.func 81) #[] #[]) w := by
 simp [Instr.index,run_underlying Fa,asIntOf,go_sem]
theorem idx1 (w : World) : (Instr.index 101 (.agg #[.func (.func 81) #[] #[],.func (.func 82) #[] #[],.func (.func 83) #[] #[],.func (.func 84) #[] #[],.func (.func 85) #[] #[],.func (.func 86) #[] #[]]) (.int .i64 1)).run qP w = .ok (.func (.func 82) #[] #[]) w := by
 simp [Instr.index,run_underlying Fa,asIntOf,go_sem]
theorem idx2 (w : World) : (Instr.index 101 (.agg #[.func (.func 81) #[] #[],.func (.func 82) #[] #[],.func (.func 83) #[] #[],.func (.func 84) #[] #[],.func (.func 85) #[] #[],.func (.func 86) #[] #[]]) (.int .i64 2)).run qP w = .ok (.func (.func 83) #[] #[]) w := by
 simp [Instr.index,run_underlying Fa,asIntOf,go_sem]
theorem idx3 (w : World) : (Instr.index 101 (.agg #[.func (.func 81) #[] #[],.func (.func 82) #[] #[],.func (.func 83) #[] #[],.func (.func 84) #[] #[],.func (.func 85) #[] #[],.func (.func 86) #[] #[]]) (.int .i64 3)).run qP w = .ok (.func (.func 84) #[] #[]) w := by
 simp [Instr.index,run_underlying Fa,asIntOf,go_sem]
theorem idx4 (w : World) : (Instr.index 101 (.agg #[.func (.func 81) #[] #[],.func (.func 82) #[] #[],.func (.func 83) #[] #[],.func (.func 84) #[] #[],.func (.func 85) #[] #[],.func (.func 86) #[] #[]]) (.int .i64 4)).run qP w = .ok (.func (.func 85) #[] #[]) w := by
 simp [Instr.index,run_underlying Fa,asIntOf,go_sem]
theorem idx5 (w : World) : (Instr.index 101 (.agg #[.func (.func 81) #[] #[],.func (.func 82) #[] #[],.func (.func 83) #[] #[],.func (.func 84) #[] #[],.func (.func 85) #[] #[],.func (.func 86) #[] #[]]) (.int .i64 5)).run qP w = .ok (.func (.func 86) #[] #[]) w := by
 simp [Instr.index,run_underlying Fa,asIntOf,go_sem]
def Fit (s : St) : Prop := 0 ≤ s.at' ∧ s.at' ≤ 5 ∧ (s.late = true → s.at' = 4) ∧ s.ps.length ≤ 16 ∧ ∀ y,y ∈ s.ps → y ≤ 9999
theorem qym (x : UInt8) {w0 : World} {R T : Nat} {s : St} {es : List Ev} {W : World} (hT : Tabs w0) (h : RdE w0 R T s es W) (hn : es.length + s.left.size ≤ 1000000) (hF : Fit s) :
  Calls qP 28 #[.pointer (some ⟨R,0,none⟩),.int .u8 (x.toNat : Int)] W fun e W' => e = .returned (.tuple #[]) ∧ RdE w0 R T (take s x).1 (es ++ (take s x).2) W' := by
 obtain ⟨N,pv,tv,eqs,h⟩ := h;obtain ⟨f0,f5,fl,h16,hlo⟩ := hF;obtain ⟨c0,c1,c2,c3,c4,c5,c6,c7,cf⟩ := h.cells;have HL : Hid (∀ y,y ∈ s.ps → y ≤ 9999) := hlo;have HT : Hid (Tabs w0) := hT;have HF : Hid (s.late = true → s.at' = 4) := fl;have HR : Hid (Rd w0 R T s es W N pv tv eqs) := h;have HE : Hid (take s x = if (woken s x).at' ≠ 4 ∧ qi8 x = true then control (woken s x) x else acts (woken s x) x) := rfl
 generalize take s x = res at HE ⊢;clear hlo hT fl
 by_cases wk : s.late = true ∧ x.toNat ≠ 92
 ·have ew : woken s x = bare 1 := if_pos wk
  have wl : s.late = true := wk.1;have y92 : ¬ (x.toNat : Int) = 92 := by omega
  have b92 : ((x.toNat : Int) == 92) = false := by rw [beq_eq_false_iff_ne];exact y92
  have HX := Z9 1 h;clear h
  cases hc : qi8 x with
  | true =>
   go_enter Tryz.func28,Tryz.ntmps28;go_wp2_with fail;refine HX.mono ?_;rintro e W1 ⟨rfl,-,h1⟩;obtain ⟨d0,d1,d2,d3,d4,d5,d6,d7,df⟩ := h1.cells;have HC := Xl x W1;rw [hc] at HC;have HO := Um x ⟨_,_,_,_,h1⟩ (by show es.length + 0 ≤ _;omega)
   clear h1
   change W1.cell? ⟨R,0,none⟩ = some (.int .i64 1) at d0
   go_wp2_with fail;refine HC.mono ?_;rintro e w1 ⟨rfl,hw1⟩;rw [hw1];clear hw1 w1;go_wp2_with fail;refine HO.mono ?_;rintro e W2 ⟨rfl,h2⟩;go_wp2_with fail;refine qk (v := .tuple #[]) (results_none rfl _ _ _) rfl ?_;rw [HE.out,ew,if_pos ⟨by decide,hc⟩]
   exact ⟨rfl,h2⟩
  | false =>
   go_enter Tryz.func28,Tryz.ntmps28;go_wp2_with fail;refine HX.mono ?_;rintro e W1 ⟨rfl,-,h1⟩;obtain ⟨d0,d1,d2,d3,d4,d5,d6,d7,df⟩ := h1.cells;have HC := Xl x W1;rw [hc] at HC;have HS : Hid (Rd w0 R T (bare 1) es W1.drew N (.slice none 0 0) tv eqs) := h1.below ((qr _ _).drew);clear h1
   change W1.cell? ⟨R,0,none⟩ = some (.int .i64 1) at d0
   have hix := idx1;go_wp2_with fail;refine HC.mono ?_;rintro e w1 ⟨rfl,hw1⟩;rw [hw1];clear hw1 w1;go_wp2_with fail
   go_region_with (first
    | (go_at_call 52;refine (Ky _).mono ?_;rintro e Wa ⟨rfl,ba⟩;have hra := (HS.out).below ba;obtain ⟨g0,g1,g2,g3,g4,g5,g6,g7,gf⟩ := hra.cells;have g0' : Wa.cell? ⟨R,0,none⟩ = some (.int .i64 1) := g0;clear g0;have HRA : Hid (Rd w0 R T (bare 1) es Wa _ _ _ _) := hra;clear hra)
    | (go_at_call 82;refine (qcj x ⟨_,_,_,_,HRA.out⟩ (by omega)).mono ?_;rintro e Wb ⟨rfl,hrb⟩))
   all_goals go_wp2_with fail
   all_goals go_end0
   all_goals rw [HE.out,ew,if_neg (by rw [hc];simp),show acts (bare 1) x = J9 x from rfl]
   all_goals exact ⟨rfl,hrb⟩
 ·have ew : woken s x = s := if_neg wk
  rw [ew] at HE
  cases hl : s.late with
  | true =>
   have x92 : x.toNat = 92 := by
    rcases Nat.decEq x.toNat 92 with q | q
    ·exact absurd ⟨hl,q⟩ wk
    ·exact q
   have b92 : ((x.toNat : Int) == 92) = true := by rw [beq_iff_eq];omega
   have nb92 : ((x.toNat : Int) != 92) = false := by simp [x92]
   clear x92 wk;have a4 : s.at' = 4 := HF.out hl;have A4 : Hid (s.at' = 4) := a4;have HS : Hid (Rd w0 R T s es W.drew N pv tv eqs) := h.below ((qr _ _).drew);clear h;have hix := idx4;rw [a4] at c0;go_enter Tryz.func28,Tryz.ntmps28;go_wp2_with fail
   go_region_with (first
    | (go_at_call 52;refine (Ky _).mono ?_;rintro e Wa ⟨rfl,ba⟩;have hra := (HS.out).below ba;obtain ⟨g0,g1,g2,g3,g4,g5,g6,g7,gf⟩ := hra.cells;have g0' : Wa.cell? ⟨R,0,none⟩ = some (.int .i64 4) := (by rw [g0,A4.out]);clear g0;have HRA : Hid (Rd w0 R T s es Wa _ _ _ _) := hra;clear hra)
    | (go_at_call 85;refine (qdb x ⟨_,_,_,_,HRA.out⟩ (by omega)).mono ?_;rintro e Wb ⟨rfl,hrb⟩))
   all_goals go_wp2_with fail
   all_goals go_end0
   all_goals rw [HE.out,if_neg (fun q => q.1 A4.out),show acts s x = Yk s x from by unfold acts;rw [if_neg (by rw [A4.out];decide)];rw [if_neg (by rw [A4.out];decide)];rw [if_neg (by rw [A4.out];decide)];rw [if_neg (by rw [A4.out];decide)];rw [if_pos A4.out]]
   all_goals exact ⟨rfl,hrb⟩
  | false =>
   clear wk
   by_cases a4 : s.at' = 4
   ·have A4 : Hid (s.at' = 4) := a4
    have HS : Hid (Rd w0 R T s es W.drew N pv tv eqs) := h.below ((qr _ _).drew);clear h;have hix := idx4;rw [a4] at c0;go_enter Tryz.func28,Tryz.ntmps28;go_wp2_with fail
    go_region_with (first
     | (go_at_call 52;refine (Ky _).mono ?_;rintro e Wa ⟨rfl,ba⟩;have hra := (HS.out).below ba;obtain ⟨g0,g1,g2,g3,g4,g5,g6,g7,gf⟩ := hra.cells;have g0' : Wa.cell? ⟨R,0,none⟩ = some (.int .i64 4) := (by rw [g0,A4.out]);clear g0;have HRA : Hid (Rd w0 R T s es Wa _ _ _ _) := hra;clear hra)
     | (go_at_call 85;refine (qdb x ⟨_,_,_,_,HRA.out⟩ (by omega)).mono ?_;rintro e Wb ⟨rfl,hrb⟩))
    all_goals go_wp2_with fail
    all_goals go_end0
    all_goals rw [HE.out,if_neg (fun q => q.1 A4.out),show acts s x = Yk s x from by unfold acts;rw [if_neg (by rw [A4.out];decide)];rw [if_neg (by rw [A4.out];decide)];rw [if_neg (by rw [A4.out];decide)];rw [if_neg (by rw [A4.out];decide)];rw [if_pos A4.out]]
    all_goals exact ⟨rfl,hrb⟩
   ·have n4 : (s.at' == 4) = false := by rw [beq_eq_false_iff_ne]; exact a4
    cases hc : qi8 x with
    | true =>
     have HC := Xl x W;rw [hc] at HC;have HO := Um x ⟨_,_,_,_,h⟩ hn;clear h;go_enter Tryz.func28,Tryz.ntmps28;go_wp2_with fail;refine HC.mono ?_;rintro e w1 ⟨rfl,hw1⟩;rw [hw1];clear hw1 w1;go_wp2_with fail;refine HO.mono ?_;rintro e W2 ⟨rfl,h2⟩;go_wp2_with fail;refine qk (v := .tuple #[]) (results_none rfl _ _ _) rfl ?_;rw [HE.out,if_pos ⟨a4,hc⟩];exact ⟨rfl,h2⟩
    | false =>
     by_cases a0 : s.at' = 0
     ·have A0 : Hid (s.at' = 0) := a0
      have HS : Hid (Rd w0 R T s es W.drew N pv tv eqs) := h.below ((qr _ _).drew);clear h;have hix := idx0;rw [a0] at c0;have HC := Xl x W;rw [hc] at HC;go_enter Tryz.func28,Tryz.ntmps28;go_wp2_with fail;refine HC.mono ?_;rintro e w1 ⟨rfl,hw1⟩;rw [hw1];clear hw1 w1;go_wp2_with fail
      go_region_with (first
       | (go_at_call 52;refine (Ky _).mono ?_;rintro e Wa ⟨rfl,ba⟩;have hra := (HS.out).below ba;obtain ⟨g0,g1,g2,g3,g4,g5,g6,g7,gf⟩ := hra.cells;have g0' : Wa.cell? ⟨R,0,none⟩ = some (.int .i64 0) := (by rw [g0,A0.out]);clear g0;have HRA : Hid (Rd w0 R T s es Wa _ _ _ _) := hra;clear hra)
       | (go_at_call 81;refine (qkq x HT.out ⟨_,_,_,_,HRA.out⟩ hn).mono ?_;rintro e Wb ⟨rfl,hrb⟩))
      all_goals go_wp2_with fail
      all_goals go_end0
      all_goals rw [HE.out,if_neg (by rw [hc];simp),show acts s x = G8 s x from by unfold acts;rw [if_pos A0.out]]
      all_goals exact ⟨rfl,hrb⟩
     by_cases a1 : s.at' = 1
     ·have A1 : Hid (s.at' = 1) := a1
      have HS : Hid (Rd w0 R T s es W.drew N pv tv eqs) := h.below ((qr _ _).drew);clear h;have hix := idx1;rw [a1] at c0;have HC := Xl x W;rw [hc] at HC;go_enter Tryz.func28,Tryz.ntmps28;go_wp2_with fail;refine HC.mono ?_;rintro e w1 ⟨rfl,hw1⟩;rw [hw1];clear hw1 w1;go_wp2_with fail
      go_region_with (first
       | (go_at_call 52;refine (Ky _).mono ?_;rintro e Wa ⟨rfl,ba⟩;have hra := (HS.out).below ba;obtain ⟨g0,g1,g2,g3,g4,g5,g6,g7,gf⟩ := hra.cells;have g0' : Wa.cell? ⟨R,0,none⟩ = some (.int .i64 1) := (by rw [g0,A1.out]);clear g0;have HRA : Hid (Rd w0 R T s es Wa _ _ _ _) := hra;clear hra)
       | (go_at_call 82;refine (qcj x ⟨_,_,_,_,HRA.out⟩ (by omega)).mono ?_;rintro e Wb ⟨rfl,hrb⟩))
      all_goals go_wp2_with fail
      all_goals go_end0
      all_goals rw [HE.out,if_neg (by rw [hc];simp),show acts s x = J9 x from by unfold acts;rw [if_neg (by rw [A1.out];decide)];rw [if_pos A1.out]]
      all_goals exact ⟨rfl,hrb⟩
     by_cases a2 : s.at' = 2
     ·have A2 : Hid (s.at' = 2) := a2
      have HS : Hid (Rd w0 R T s es W.drew N pv tv eqs) := h.below ((qr _ _).drew);clear h;have hix := idx2;rw [a2] at c0;have HC := Xl x W;rw [hc] at HC;go_enter Tryz.func28,Tryz.ntmps28;go_wp2_with fail;refine HC.mono ?_;rintro e w1 ⟨rfl,hw1⟩;rw [hw1];clear hw1 w1;go_wp2_with fail
      go_region_with (first
       | (go_at_call 52;refine (Ky _).mono ?_;rintro e Wa ⟨rfl,ba⟩;have hra := (HS.out).below ba;obtain ⟨g0,g1,g2,g3,g4,g5,g6,g7,gf⟩ := hra.cells;have g0' : Wa.cell? ⟨R,0,none⟩ = some (.int .i64 2) := (by rw [g0,A2.out]);clear g0;have HRA : Hid (Rd w0 R T s es Wa _ _ _ _) := hra;clear hra)
       | (go_at_call 83;refine (qla x ⟨_,_,_,_,HRA.out⟩ (by omega)).mono ?_;rintro e Wb ⟨rfl,hrb⟩))
      all_goals go_wp2_with fail
      all_goals go_end0
      all_goals rw [HE.out,if_neg (by rw [hc];simp),show acts s x = Y9 s x from by unfold acts;rw [if_neg (by rw [A2.out];decide)];rw [if_neg (by rw [A2.out];decide)];rw [if_pos A2.out]]
      all_goals exact ⟨rfl,hrb⟩
     by_cases a3 : s.at' = 3
     ·have A3 : Hid (s.at' = 3) := a3
      have HS : Hid (Rd w0 R T s es W.drew N pv tv eqs) := h.below ((qr _ _).drew);clear h;have hix := idx3;rw [a3] at c0;have HC := Xl x W;rw [hc] at HC;go_enter Tryz.func28,Tryz.ntmps28;go_wp2_with fail;refine HC.mono ?_;rintro e w1 ⟨rfl,hw1⟩;rw [hw1];clear hw1 w1;go_wp2_with fail
      go_region_with (first
       | (go_at_call 52;refine (Ky _).mono ?_;rintro e Wa ⟨rfl,ba⟩;have hra := (HS.out).below ba;obtain ⟨g0,g1,g2,g3,g4,g5,g6,g7,gf⟩ := hra.cells;have g0' : Wa.cell? ⟨R,0,none⟩ = some (.int .i64 3) := (by rw [g0,A3.out]);clear g0;have HRA : Hid (Rd w0 R T s es Wa _ _ _ _) := hra;clear hra)
       | (go_at_call 84;refine (qhy x ⟨_,_,_,_,HRA.out⟩ (by omega) h16 HL.out).mono ?_;rintro e Wb ⟨rfl,hrb⟩))
      all_goals go_wp2_with fail
      all_goals go_end0
      all_goals rw [HE.out,if_neg (by rw [hc];simp),show acts s x = J2 s x from by unfold acts;rw [if_neg (by rw [A3.out];decide)];rw [if_neg (by rw [A3.out];decide)];rw [if_neg (by rw [A3.out];decide)];rw [if_pos A3.out]]
      all_goals exact ⟨rfl,hrb⟩
     have a5 : s.at' = 5 := by omega
     have A5 : Hid (s.at' = 5) := a5;have HS : Hid (Rd w0 R T s es W.drew N pv tv eqs) := h.below ((qr _ _).drew);clear h;have hix := idx5;rw [a5] at c0;have HC := Xl x W;rw [hc] at HC;go_enter Tryz.func28,Tryz.ntmps28;go_wp2_with fail;refine HC.mono ?_;rintro e w1 ⟨rfl,hw1⟩;rw [hw1];clear hw1 w1;go_wp2_with fail
     go_region_with (first
      | (go_at_call 52;refine (Ky _).mono ?_;rintro e Wa ⟨rfl,ba⟩;have hra := (HS.out).below ba;obtain ⟨g0,g1,g2,g3,g4,g5,g6,g7,gf⟩ := hra.cells;have g0' : Wa.cell? ⟨R,0,none⟩ = some (.int .i64 5) := (by rw [g0,A5.out]);clear g0;have HRA : Hid (Rd w0 R T s es Wa _ _ _ _) := hra;clear hra)
      | (go_at_call 86;refine (qq6 x ⟨_,_,_,_,HRA.out⟩).mono ?_;rintro e Wb ⟨rfl,hrb⟩))
     all_goals go_wp2_with fail
     all_goals go_end0
     all_goals rw [HE.out,if_neg (by rw [hc];simp),show acts s x = Us s x from by unfold acts;rw [if_neg (by rw [A5.out];decide)];rw [if_neg (by rw [A5.out];decide)];rw [if_neg (by rw [A5.out];decide)];rw [if_neg (by rw [A5.out];decide)];rw [if_neg (by rw [A5.out];decide)]]
     all_goals exact ⟨rfl,hrb⟩
theorem qi4 : ∀ (q : Nat) (D : ByteArray), (drain q D).1.length + (drain q D).2.size ≤ D.size
 | 0,D => by simp [drain]
 | q + 1,D => by
  cases hf : full D with
  | false => rw [Fe _ _ hf];simp
  | true =>
   rw [qcm _ _ hf];have h := qi4 q (D.extract (Lib.decodeGo D).2 D.size);have ⟨p1,p2⟩ := qab D (qfi hf);have hs : (D.extract (Lib.decodeGo D).2 D.size).size = D.size - (Lib.decodeGo D).2 := by rw [ByteArray.size_extract];omega
   rw [hs] at h;simp only [List.length_cons];omega
theorem Vq (a : Int) (h0 : 0 ≤ a) (h5 : a ≤ 5) : Fit (bare a) := ⟨h0,h5,fun h => absurd h (by simp [bare]),by simp [bare],fun y hy => absurd hy (by simp [bare])⟩
theorem qi7 (l : List Int) (h16 : l.length ≤ 16) (hlo : ∀ y,y ∈ l → y ≤ 9999) : (begun l).length ≤ 16 ∧ (∀ y,y ∈ begun l → y ≤ 9999) := by
 unfold begun;split
 ·exact ⟨by simp,fun y hy => by simp at hy;omega⟩
 ·exact ⟨h16,hlo⟩
theorem qs6 (s : St) (x : UInt8) (hF : Fit s) : Fit (Kn s x) := by
 obtain ⟨f0,f5,fl,h16,hlo⟩ := hF;obtain ⟨b1,b2⟩ := qi7 s.ps h16 hlo;unfold Kn;split
 ·refine ⟨f0, f5, fl, by simp only [digit, List.length_set]; exact b1, fun y hy => ?_⟩
  rcases List.mem_or_eq_of_mem_set hy with h | h
  ·exact b2 y h
  ·rw [h];omega
 ·split
  ·refine ⟨f0, f5, fl, by simp only [List.length_append, List.length_singleton]; omega, fun y hy => ?_⟩
   rw [List.mem_append,List.mem_singleton] at hy
   rcases hy with h | h
   ·exact b2 y h
   ·omega
  ·exact Vq 5 (by omega) (by omega)
theorem qs1 (s : St) (x : UInt8) (hF : Fit s) : Fit (woken s x) := by
 unfold woken;split
 ·exact Vq 1 (by omega) (by omega)
 ·exact hF
theorem qx5 (s : St) (x : UInt8) (hF : Fit s) : Fit (take s x).1 := by
 have hw := qs1 s x hF;unfold take;generalize woken s x = s1 at hw ⊢;obtain ⟨f0,f5,fl,h16,hlo⟩ := hw;split
 ·unfold control
  split
  ·exact Vq 1 (by omega) (by omega)
  ·split
   ·exact Vq 0 (by omega) (by omega)
   ·split
    ·exact ⟨f0,f5,fl,h16,hlo⟩
    ·exact ⟨f0,f5,fl,h16,hlo⟩
 ·unfold acts
  split
  ·exact ⟨f0,f5,fl,h16,hlo⟩
  ·split
   ·unfold J9
    repeat' split
    all_goals first | exact Vq _ (by omega) (by omega) | exact ⟨by simp [bare],by simp [bare],by simp [bare],by simp [bare],by simp [bare]⟩
   ·split
    ·unfold Y9
     repeat' split
     all_goals first | exact Vq _ (by omega) (by omega) | exact ⟨f0,f5,fl,h16,hlo⟩
    ·split
     ·unfold J2
      repeat' split
      all_goals first | exact Vq _ (by omega) (by omega) | exact ⟨f0,f5,fl,h16,hlo⟩ | exact qs6 s1 x ⟨f0,f5,fl,h16,hlo⟩
     ·split
      ·rename_i h4
       unfold Yk
       repeat' split
       all_goals first | exact Vq _ (by omega) (by omega) | exact ⟨f0,f5,fl,h16,hlo⟩ | exact ⟨f0,f5,fun _ => h4,h16,hlo⟩
      ·unfold Us
       split
       ·exact Vq 0 (by omega) (by omega)
       ·exact ⟨f0,f5,fl,h16,hlo⟩
theorem Kc (a : Int) : (bare a).left.size = 0 := rfl
theorem qqs (s : St) (x : UInt8) : (Kn s x).left.size ≤ s.left.size := by
 unfold Kn
 repeat' split
 all_goals simp [Kc]
theorem qqx (s : St) (x : UInt8) : (woken s x).left.size ≤ s.left.size := by
 unfold woken;split
 ·simp [Kc]
 ·exact qd _
theorem qm5 (s : St) (x : UInt8) : (take s x).2.length + (take s x).1.left.size ≤ s.left.size + 1 := by
 have hw := qqx s x;have hnt : nt.size = 0 := rfl;unfold take;generalize woken s x = s1 at hw ⊢;split
 ·unfold control
  repeat' split
  all_goals simp [Kc,hnt]
  all_goals omega
 ·unfold acts
  split
  ·unfold G8
   have h := qi4 (s1.left ++ one x).size (s1.left ++ one x);have e : (s1.left ++ one x).size = s1.left.size + 1 := by rw [ByteArray.size_append];rfl
   rw [e] at h;simp only [e];omega
  ·split
   ·unfold J9
    repeat' split
    all_goals simp [bare,hnt]
   ·split
    ·unfold Y9
     repeat' split
     all_goals simp [Kc]
     all_goals omega
    ·split
     ·have hp := qqs s1 x
      unfold J2
      repeat' split
      all_goals simp [Kc]
      all_goals omega
     ·split
      ·unfold Yk
       repeat' split
       all_goals simp [Kc]
       all_goals omega
      ·unfold Us
       split
       all_goals simp [Kc]
       all_goals omega
def Ud (p : UInt8 → Bool) (b : ByteArray) : Bool := b.data.toList.all p
def Vr (n : Int) : Bool := decide (n < -1) || decide (9999 < n)
def qag (l : List Int) : Bool := l.any Vr
def high (x : UInt8) : Bool := decide (32 ≤ x.toNat)
def parts (s : St) : Bool :=
 !(decide (s.at' = 2) && decide (s.mid.size = 0)) && ((decide (s.left.size = 0) || !full s.left) && ((decide (s.mark = 0) || Xa s.mark) && (decide (s.mid.size ≤ 2) && (Ud Zx s.mid && (decide (s.ps.length ≤ 16) && (!qag s.ps && (decide (s.txt.size ≤ 64) && Ud high s.txt)))))))
def qkf (s : St) : Bool := decide (s.mark = 0) && (decide (s.mid.size = 0) && (decide (s.ps.length = 0) && (decide (s.txt.size = 0) && (decide (s.left.size = 0) && !s.late))))
def Gy (s : St) : St :=
 if s.at' = 0 then { s with left := nt } else if s.at' = 2 then { s with mid := nt } else if s.at' = 3 then { s with mark := 0,mid := nt,ps := [] } else if s.at' = 4 then { s with txt := nt,late := false } else s
def okS (s : St) : Bool := (decide (0 ≤ s.at') && decide (s.at' ≤ 5)) && (qkf (Gy s) && parts s)
structure Ok (s : St) : Prop where
 a0 : 0 ≤ s.at'
 a5 : s.at' ≤ 5
 lf : s.at' = 0 ∨ s.left.size = 0
 md : s.at' = 2 ∨ s.at' = 3 ∨ s.mid.size = 0
 mz : s.at' = 3 ∨ s.mark = 0
 pz : s.at' = 3 ∨ s.ps = []
 tx : s.at' = 4 ∨ s.txt.size = 0
 lt : s.at' = 4 ∨ s.late = false
 m2 : s.at' = 2 → s.mid.size ≠ 0
 fl : s.left.size = 0 ∨ full s.left = false
 mm : s.mark = 0 ∨ Xa s.mark = true
 ms : s.mid.size ≤ 2
 ma : Ud Zx s.mid = true
 pl : s.ps.length ≤ 16
 pa : ∀ y,y ∈ s.ps → -1 ≤ y ∧ y ≤ 9999
 tl : s.txt.size ≤ 64
 ta : Ud high s.txt = true
theorem qlx (l : List Int) : qag l = false ↔ ∀ y,y ∈ l → -1 ≤ y ∧ y ≤ 9999 := by
 unfold qag
 induction l with
 | nil => simp
 | cons x l ih =>
  simp only [List.any_cons,Bool.or_eq_false_iff,ih,List.forall_mem_cons,Vr,decide_eq_false_iff_not];constructor
  ·rintro ⟨⟨h1, h2⟩, h3⟩
   exact ⟨by omega,h3⟩
  ·rintro ⟨⟨h1, h2⟩, h3⟩
   exact ⟨by omega,h3⟩
theorem X7 : nt.size = 0 := rfl
theorem qrz (s : St) : okS s = true ↔ Ok s := by
 have hp : parts s = true ↔ (s.at' = 2 → s.mid.size ≠ 0) ∧ (s.left.size = 0 ∨ full s.left = false) ∧ (s.mark = 0 ∨ Xa s.mark = true) ∧ s.mid.size ≤ 2 ∧ Ud Zx s.mid = true ∧ s.ps.length ≤ 16 ∧ (∀ y,y ∈ s.ps → -1 ≤ y ∧ y ≤ 9999) ∧ s.txt.size ≤ 64 ∧ Ud high s.txt = true := by
  rw [← qlx];simp only [parts,Bool.and_eq_true,Bool.or_eq_true,Bool.not_eq_true',decide_eq_true_eq,Bool.and_eq_false_iff,decide_eq_false_iff_not];constructor
  ·rintro ⟨h1, h2⟩
   exact ⟨fun h => h1.elim (fun g => absurd h g) id,h2⟩
  ·rintro ⟨h1, h2⟩
   exact ⟨Classical.byCases (p := s.at' = 2) (fun h => .inr (h1 h)) (fun h => .inl h),h2⟩
 have hb : qkf (Gy s) = true ↔ (s.at' = 0 ∨ s.left.size = 0) ∧ (s.at' = 2 ∨ s.at' = 3 ∨ s.mid.size = 0) ∧ (s.at' = 3 ∨ s.mark = 0) ∧ (s.at' = 3 ∨ s.ps = []) ∧ (s.at' = 4 ∨ s.txt.size = 0) ∧ (s.at' = 4 ∨ s.late = false) := by
  unfold Gy qkf
  by_cases h0 : s.at' = 0
  ·simp [h0,X7];constructor <;> (intro h;simp [h])
  ·by_cases h2 : s.at' = 2
   ·simp [h2,X7];constructor <;> (intro h;simp [h])
   ·by_cases h3 : s.at' = 3
    ·simp [h3,X7];constructor <;> (intro h;simp [h])
    ·by_cases h4 : s.at' = 4
     ·simp [h4,X7];constructor <;> (intro h;simp [h])
     ·simp [h0,h2,h3,h4];constructor <;> (intro h;simp [h])
 rw [show okS s = ((decide (0 ≤ s.at') && decide (s.at' ≤ 5)) && (qkf (Gy s) && parts s)) from rfl,Bool.and_eq_true,Bool.and_eq_true,Bool.and_eq_true,hp,hb,decide_eq_true_eq,decide_eq_true_eq]
 constructor
 ·rintro ⟨⟨a, b⟩, ⟨c1, c2, c3, c4, c5, c6⟩, d1, d2, d3, d4, d5, d6, d7, d8, d9⟩
  exact ⟨a,b,c1,c2,c3,c4,c5,c6,d1,d2,d3,d4,d5,d6,d7,d8,d9⟩
 ·rintro ⟨a, b, c1, c2, c3, c4, c5, c6, d1, d2, d3, d4, d5, d6, d7, d8, d9⟩
  exact ⟨⟨a,b⟩,⟨c1,c2,c3,c4,c5,c6⟩,d1,d2,d3,d4,d5,d6,d7,d8,d9⟩
theorem Ok.fit {s : St} (h : Ok s) : Fit s := ⟨h.a0,h.a5,fun g => h.lt.elim id fun e => absurd g (by rw [e];simp),h.pl,fun y hy => (h.pa y hy).2⟩
theorem X5 (a : Int) (h0 : 0 ≤ a) (h5 : a ≤ 5) (h2 : a ≠ 2) : Ok (bare a) :=
 ⟨h0,h5,.inr rfl,.inr (.inr rfl),.inr rfl,.inr rfl,.inr rfl,.inr rfl,fun h => absurd h h2,.inl rfl,.inl rfl,by simp [bare,X7],rfl,by simp [bare],fun y hy => absurd hy (by simp [bare]),by simp [bare,X7],rfl⟩
theorem qol (x : Nat) : Lib.firstT x % 8 ≤ 4 := by
 unfold Lib.firstT
 repeat' split
 all_goals decide
theorem qgj {b : ByteArray} (h : b.size = 0 ∨ full b = false) : b.size ≤ 3 := by
 rcases h with h | h
 ·omega
 ·unfold full at h
  split at h
  ·omega
  ·unfold qsl at h
   have := qol (b.get! 0).toNat;split at h
   ·simp at h
   ·omega
theorem qit : ∀ (q : Nat) (D : ByteArray), D.size ≤ q → full (drain q D).2 = false
 | 0,D,h => by
  have : D.size = 0 := by omega
  simp [drain,full,this]
 | q + 1,D,h => by
  cases hf : full D with
  | false => rw [Fe _ _ hf];exact hf
  | true =>
   rw [qcm _ _ hf];have ⟨p1,p2⟩ := qab D (qfi hf);have hs : (D.extract (Lib.decodeGo D).2 D.size).size = D.size - (Lib.decodeGo D).2 := by rw [ByteArray.size_extract];omega
   exact qit q _ (by omega)
theorem qdn (p : UInt8 → Bool) (b : ByteArray) (x : UInt8) (h : Ud p b = true) (hx : p x = true) : Ud p (b ++ one x) = true := by
 unfold Ud at h ⊢;rw [ByteArray.data_append,Array.toList_append,List.all_append,h,show (one x).data.toList = [x] from rfl]
 simp [hx]
theorem qde (b : ByteArray) (x : UInt8) : (b ++ one x).size = b.size + 1 := by rw [ByteArray.size_append];rfl
theorem qyu (s : St) (x : UInt8) (h : Ok s) (h3 : s.at' = 3) : Ok (Kn s x) := by
 have hb : ∀ y,y ∈ begun s.ps → -1 ≤ y ∧ y ≤ 9999 := by
  unfold begun;split
  ·intro y hy;simp at hy;omega
  ·exact h.pa
 have hl : (begun s.ps).length ≤ 16 := (qi7 s.ps h.pl (fun y hy => (h.pa y hy).2)).1
 have n0 : s.at' ≠ 2 := by omega
 unfold Kn;split
 ·rename_i hd
  refine ⟨h.a0,h.a5,h.lf,h.md,.inl h3,.inl h3,h.tx,h.lt,h.m2,h.fl,h.mm,h.ms,h.ma,by simp only [digit,List.length_set];exact hl,fun y hy => ?_,h.tl,h.ta⟩
  rcases List.mem_or_eq_of_mem_set hy with g | g
  ·exact hb y g
  ·simp only [Ja, Bool.and_eq_true, decide_eq_true_eq] at hd
   rw [g];omega
 ·split
  ·refine ⟨h.a0, h.a5, h.lf, h.md, .inl h3, .inl h3, h.tx, h.lt, h.m2, h.fl, h.mm, h.ms, h.ma, by simp only [List.length_append, List.length_singleton]; omega, fun y hy => ?_, h.tl, h.ta⟩
   rw [List.mem_append,List.mem_singleton] at hy
   rcases hy with g | g
   ·exact hb y g
   ·omega
  ·exact X5 5 (by omega) (by omega) (by omega)
theorem qsk (s : St) (x : UInt8) (h : Ok s) : Ok (take s x).1 := by
 have hw : Ok (woken s x) := by
  unfold woken;split
  ·exact X5 1 (by omega) (by omega) (by omega)
  ·exact h
 unfold take;generalize woken s x = s1 at hw ⊢;split
 ·unfold control
  have hz : Ok { s1 with left := nt } := ⟨hw.a0,hw.a5,.inr rfl,hw.md,hw.mz,hw.pz,hw.tx,hw.lt,hw.m2,.inl rfl,hw.mm,hw.ms,hw.ma,hw.pl,hw.pa,hw.tl,hw.ta⟩
  repeat' split
  ·exact X5 1 (by omega) (by omega) (by omega)
  ·exact X5 0 (by omega) (by omega) (by omega)
  ·exact hz
  ·exact hz
 ·unfold acts
  split
  ·rename_i h0
   exact ⟨hw.a0,hw.a5,.inl h0,hw.md,hw.mz,hw.pz,hw.tx,hw.lt,hw.m2,.inr (qit _ _ (qd _)),hw.mm,hw.ms,hw.ma,hw.pl,hw.pa,hw.tl,hw.ta⟩
  ·split
   ·unfold J9
    repeat' split
    ·exact X5 3 (by omega) (by omega) (by omega)
    ·exact X5 4 (by omega) (by omega) (by omega)
    ·rename_i hm
     refine ⟨by simp [bare],by simp [bare],.inr rfl,.inl rfl,.inr rfl,.inr rfl,.inr rfl,.inr rfl,fun _ => by simp [one,ByteArray.size],.inl rfl,.inl rfl,by simp [one,ByteArray.size],?_,by simp [bare],fun y hy => absurd hy (by simp [bare]),by simp [bare,X7],rfl⟩
     simp [Ud,one,hm]
    ·exact X5 0 (by omega) (by omega) (by omega)
    ·exact X5 0 (by omega) (by omega) (by omega)
   ·split
    ·rename_i h2
     unfold Y9
     repeat' split
     ·rename_i hc
      have hs := qde s1.mid x;exact ⟨hw.a0,hw.a5,hw.lf,.inl h2,hw.mz,hw.pz,hw.tx,hw.lt,fun _ => by simp only [hs];omega,hw.fl,hw.mm,by simp only [hs];omega,qdn _ _ _ hw.ma hc.1,hw.pl,hw.pa,hw.tl,hw.ta⟩
     ·exact X5 0 (by omega) (by omega) (by omega)
     ·exact X5 0 (by omega) (by omega) (by omega)
    ·split
     ·rename_i h3
      unfold J2
      repeat' split
      ·exact qyu s1 x hw h3
      ·rename_i hc
       exact ⟨hw.a0,hw.a5,hw.lf,hw.md,.inl h3,hw.pz,hw.tx,hw.lt,hw.m2,hw.fl,.inr hc.1,hw.ms,hw.ma,hw.pl,hw.pa,hw.tl,hw.ta⟩
      ·rename_i hc
       have hs := qde s1.mid x;exact ⟨hw.a0,hw.a5,hw.lf,.inr (.inl h3),hw.mz,hw.pz,hw.tx,hw.lt,fun _ => by simp only [hs];omega,hw.fl,hw.mm,by simp only [hs];omega,qdn _ _ _ hw.ma hc.1,hw.pl,hw.pa,hw.tl,hw.ta⟩
      ·exact X5 0 (by omega) (by omega) (by omega)
      ·exact X5 0 (by omega) (by omega) (by omega)
      ·exact X5 5 (by omega) (by omega) (by omega)
     ·split
      ·rename_i h4
       unfold Yk
       repeat' split
       ·exact X5 0 (by omega) (by omega) (by omega)
       ·exact ⟨hw.a0,hw.a5,hw.lf,hw.md,hw.mz,hw.pz,hw.tx,.inl h4,hw.m2,hw.fl,hw.mm,hw.ms,hw.ma,hw.pl,hw.pa,hw.tl,hw.ta⟩
       ·exact X5 0 (by omega) (by omega) (by omega)
       ·rename_i hc
        have hs := qde s1.txt x;exact ⟨hw.a0,hw.a5,hw.lf,hw.md,hw.mz,hw.pz,.inl h4,hw.lt,hw.m2,hw.fl,hw.mm,hw.ms,hw.ma,hw.pl,hw.pa,by simp only [hs];omega,qdn _ _ _ hw.ta (by simp [high,hc.1])⟩
       ·exact hw
      ·unfold Us
       split
       ·exact X5 0 (by omega) (by omega) (by omega)
       ·exact hw
theorem qli (l : List UInt8) : ∀ (s : St),Ok s → Ok (feed s l).1 := by
 induction l with
 | nil => exact fun s h => h
 | cons x l ih => exact fun s h => ih _ (qsk s x h)
structure EvB (e : Ev) : Prop where
 pl : e.ps.length ≤ 16
 pa : ∀ y,y ∈ e.ps → -1 ≤ y ∧ y ≤ 9999
 tl : e.txt.size ≤ 64
 ml : e.mid.size ≤ 2
 f0 : 0 ≤ e.fin
 f1 : e.fin ≤ 255
 m0 : 0 ≤ e.mark
 m1 : e.mark ≤ 255
def EvsB (es : List Ev) : Prop := ∀ e,e ∈ es → EvB e
theorem Kt : EvsB [] := fun _ h => absurd h (by simp)
theorem U8 {e : Ev} (h : EvB e) : EvsB [e] := fun x hx => by rw [List.mem_singleton.1 hx];exact h
theorem qg0 {a b : List Ev} (ha : EvsB a) (hb : EvsB b) : EvsB (a ++ b) := fun e he => (List.mem_append.1 he).elim (ha e) (hb e)
theorem q04 (c : Int) : EvB (evP c) := ⟨Nat.zero_le _,fun y hy => absurd hy List.not_mem_nil,by show nt.size ≤ 64;rw [X7];omega,by show nt.size ≤ 2;rw [X7];omega,by show (0 : Int) ≤ 0;omega,by show (0 : Int) ≤ 255;omega,by show (0 : Int) ≤ 0;omega,by show (0 : Int) ≤ 255;omega⟩
theorem q17 (c : Int) : EvB (evC c) := ⟨Nat.zero_le _,fun y hy => absurd hy List.not_mem_nil,by show nt.size ≤ 64;rw [X7];omega,by show nt.size ≤ 2;rw [X7];omega,by show (0 : Int) ≤ 0;omega,by show (0 : Int) ≤ 255;omega,by show (0 : Int) ≤ 0;omega,by show (0 : Int) ≤ 255;omega⟩
theorem q07 (x : UInt8) (m : ByteArray) (hm : m.size ≤ 2) : EvB ⟨3,0,x.toNat,0,m,[],nt⟩ := ⟨Nat.zero_le _,fun y hy => absurd hy List.not_mem_nil,by show nt.size ≤ 64;rw [X7];omega,hm,by show (0 : Int) ≤ (x.toNat : Int);omega,by show (x.toNat : Int) ≤ 255;have := x.toNat_lt;omega,by show (0 : Int) ≤ 0;omega,by show (0 : Int) ≤ 255;omega⟩
theorem q2e (t : ByteArray) (ht : t.size ≤ 64) : EvB ⟨5,0,0,0,nt,[],t⟩ := ⟨Nat.zero_le _,fun y hy => absurd hy List.not_mem_nil,ht,by show nt.size ≤ 2;rw [X7];omega,by show (0 : Int) ≤ 0;omega,by show (0 : Int) ≤ 255;omega,by show (0 : Int) ≤ 0;omega,by show (0 : Int) ≤ 255;omega⟩
theorem qcz (n : Nat) (c : Int) : EvsB (qe n (evP c)) := fun e he => by rw [List.eq_of_mem_replicate he];exact q04 c
theorem qf6 : ∀ (q : Nat) (D : ByteArray), EvsB (drain q D).1
 | 0,D => Kt
 | q + 1,D => by
  cases hf : full D with
  | false => rw [Fe _ _ hf];exact Kt
  | true =>
   rw [qcm _ _ hf];exact qg0 (U8 (q04 _)) (qf6 q _)
theorem qvd (s : St) (x : UInt8) (h : Ok s) : EvsB (take s x).2 := by
 have hw : (woken s x).ps.length ≤ 16 ∧ (∀ y,y ∈ (woken s x).ps → -1 ≤ y ∧ y ≤ 9999) ∧ (woken s x).txt.size ≤ 64 ∧ (woken s x).mid.size ≤ 2 ∧ 0 ≤ (woken s x).mark ∧ (woken s x).mark ≤ 255 := by
  unfold woken;split
  ·exact ⟨Nat.zero_le _,fun y hy => absurd hy List.not_mem_nil,by show nt.size ≤ 64;rw [X7];omega,by show nt.size ≤ 2;rw [X7];omega,by show (0 : Int) ≤ 0;omega,by show (0 : Int) ≤ 255;omega⟩
  ·refine ⟨h.pl, h.pa, h.tl, h.ms, ?_, ?_⟩
   all_goals
    rcases h.mm with q | q
    ·rw [q];omega
    ·unfold Xa at q
     rw [Bool.and_eq_true,decide_eq_true_eq,decide_eq_true_eq] at q;omega
 obtain ⟨w1,w2,w3,w4,w5,w6⟩ := hw;unfold take;generalize woken s x = s1 at *;split
 ·unfold control
  repeat' split
  ·exact qcz _ _
  ·exact qcz _ _
  ·exact qcz _ _
  ·exact qg0 (qcz _ _) (U8 (q17 _))
 ·unfold acts
  split
  ·exact qf6 _ _
  ·split
   ·unfold J9
    repeat' split
    all_goals first | exact Kt | exact U8 (q07 x nt (by rw [X7];omega))
   ·split
    ·unfold Y9
     repeat' split
     all_goals first | exact Kt | exact U8 (q07 x s1.mid w4)
    ·split
     ·unfold J2
      repeat' split
      all_goals first | exact Kt | exact U8 ⟨w1,w2,by show nt.size ≤ 64;rw [X7];omega,w4,by show (0 : Int) ≤ (x.toNat : Int);omega,by show (x.toNat : Int) ≤ 255;have := x.toNat_lt;omega,w5,w6⟩
     ·split
      ·unfold Yk
       repeat' split
       all_goals first | exact Kt | exact U8 (q2e _ w3)
      ·unfold Us
       split
       all_goals exact Kt
theorem qtj (l : List UInt8) : ∀ (s : St),Ok s → EvsB (feed s l).2 := by
 induction l with
 | nil => exact fun s h => Kt
 | cons x l ih => exact fun s h => qg0 (qvd s x h) (ih _ (qsk s x h))
theorem Gf (s : ByteArray) (w : World) (hlim : s.size ≤ 281474976710656) : Calls qP 48 #[.string s] w fun e w' => e = .returned (.string s) ∧ Below w.heap.size w w' := by
 have HC := Tryz.stringslite_Clone s w hlim;go_enter Tryz.func48,Tryz.ntmps48;go_wp2_with fail;refine HC.mono ?_;rintro e W1 ⟨rfl,b1⟩;go_wp2_with fail;go_ret;exact ⟨rfl,b1⟩
def Qv (w : World) (v : Value) (l : List Int) : Prop := (l = [] ∧ ∃ p c,v = .slice p 0 c) ∨ ∃ b o c,v = .slice (some ⟨b,o,none⟩) l.length c ∧ ∀ j u,(ints l)[j]? = some u → w.cell? ((⟨b,o,none⟩ : Addr).add j) = some u
theorem q0u {W : World} {B : Nat} {a b c d e f g : Value} {t : TypeId} (h : W.heap[B]? = some (.cells #[a,b,c,d,e,f,g] t (0,0))) : (W.setCell ⟨B,2,none⟩ c).heap[B]? = some (.cells #[a,b,c,d,e,f,g] t (0,0)) := heap_setCell_same W B 2 _ _ c h
theorem q0v {W : World} {B : Nat} {a b c d e f g : Value} {t : TypeId} (h : W.heap[B]? = some (.cells #[a,b,c,d,e,f,g] t (0,0))) : (W.setCell ⟨B,4,none⟩ e).heap[B]? = some (.cells #[a,b,c,d,e,f,g] t (0,0)) := heap_setCell_same W B 4 _ _ e h
theorem q09 {W : World} {B : Nat} {a b c d e f g : Value} {t : TypeId} (h : W.heap[B]? = some (.cells #[a,b,c,d,e,f,g] t (0,0))) : (W.setCell ⟨B,5,none⟩ f).heap[B]? = some (.cells #[a,b,c,d,e,f,g] t (0,0)) := heap_setCell_same W B 5 _ _ f h
theorem Gi {B0 : Nat} {w W : World} (h : Below B0 w W) {B i : Nat} (hB : B0 ≤ B) (v : Value) : Below B0 w (W.setCell ⟨B,i,none⟩ v) := h.setCell hB v
theorem stay {W W1 : World} {k : Nat} {o : Obj} (h : W.heap[k]? = some o) (hb : Below W.heap.size W W1) : W1.heap[k]? = some o := by
 rw [hb.block k (Xj h)];exact h
theorem qkc {X : World} {base B : Nat} {v u : Value} {n : Nat} {xs : List Value} {A cs : Array Value} {i : Nat} (h : X.ownsRow base 3 1 v n xs) (hA : X.heap[B]? = some (.cells A 35 (0, 0))) {A2 : Array Value} (hA2 : X.heap[B + 1]? = some (.cells A2 35 (0, 0))) : ((X.setCell ⟨B, i, none⟩ u).setRow (B + 1) cs).ownsRow base 3 1 v n xs :=
 Jf h fun g hg => by
  obtain ⟨D,hD⟩ := Xz h hg;have n1 : g ≠ B := fun e => by
   rw [e,hA] at hD;injection hD with hD
   injection hD with _ hD
   exact absurd hD (by decide)
  have n2 : g ≠ B + 1 := fun e => by
   rw [e,hA2] at hD;injection hD with hD
   injection hD with _ hD
   exact absurd hD (by decide)
  rw [setRow_other _ _ _ _ n2,heap_setCell_other _ _ _ _ n1]
theorem qqv (s : St) (pv : Value) (w : World) (hI : Qv w pv s.ps) (h16 : s.ps.length ≤ 16) (hm : s.mid.size ≤ 1000) (ht : s.txt.size ≤ 1000) (hl : s.left.size ≤ 1000) :
  Calls qP 26 #[.agg (sAq s pv)] w fun e w' => ∃ pv',e = .returned (.agg (sAq s pv')) ∧ w'.ownsRow w.heap.size 3 1 pv' s.ps.length (ints s.ps) ∧ Below w.heap.size w w' := by
 obtain ⟨B,hB⟩ : ∃ B,w.heap.size = B := ⟨_,rfl⟩;have x0 : ((w.alloc (.cells (sAq s pv) 35)).alloc (.cells zSq 35)).heap[w.heap.size]? = some (.cells (sAq s pv) 35 (0,0)) := qao _ _ (qf w _);have x1 := qcf w (.cells (sAq s pv) 35) (.cells zSq 35);have kk := Kh w (.cells (sAq s pv) 35) (.cells zSq 35);generalize hW0 : ((w.alloc (.cells (sAq s pv) 35)).alloc (.cells zSq 35)) = W0 at x0 x1 kk;have HW0 : Hid (_ = W0) := hW0;have HI : Hid (Qv w pv s.ps) := hI;have HS : Hid (∀ W : World,W.heap[w.heap.size]? = some (.cells (sAq s pv) 35 (0,0)) → W.heap[w.heap.size]? = some (.cells (sAq s pv) 35 (0,0)) ∧ (W.cell? ⟨w.heap.size,2,none⟩ = some (.string s.mid) ∧ W.cell? ⟨w.heap.size,4,none⟩ = some (.string s.txt) ∧ W.cell? ⟨w.heap.size,5,none⟩ = some (.string s.left)) ∧ (W.frozen? ⟨w.heap.size,2,none⟩ = false ∧ W.frozen? ⟨w.heap.size,4,none⟩ = false ∧ W.frozen? ⟨w.heap.size,5,none⟩ = false)) := fun W h => by
  obtain ⟨-,-,c2,-,c4,c5,-,cf⟩ := Z8 h;exact ⟨h,⟨c2,c4,c5⟩,cf 2,cf 4,cf 5⟩
 have x0d : W0.drew.heap[w.heap.size]? = some (.cells (sAq s pv) 35 (0,0)) := x0;clear hW0 hI hB;go_enter Tryz.func26,Tryz.ntmps26;go_wp2_with fail;rw [HW0.out]
 go_region_held3 (fun W => W.heap[w.heap.size]? = some (.cells (sAq s pv) 35 (0, 0)) ∧ (W.cell? ⟨w.heap.size, 2, none⟩ = some (.string s.mid) ∧ W.cell? ⟨w.heap.size, 4, none⟩ = some (.string s.txt) ∧ W.cell? ⟨w.heap.size, 5, none⟩ = some (.string s.left)) ∧ (W.frozen? ⟨w.heap.size, 2, none⟩ = false ∧ W.frozen? ⟨w.heap.size, 4, none⟩ = false ∧ W.frozen? ⟨w.heap.size, 5, none⟩ = false))
  ((refine HS.out _ ?_;repeat' (first | with_reducible exact x0d | with_reducible exact z3 | with_reducible exact z2 | with_reducible exact z1 | with_reducible refine q0u ?_ | with_reducible refine q0v ?_ | with_reducible refine q09 ?_)))
  (first
   | (go_at_call_of 48 s.mid;refine (Gf s.mid _ (by omega)).mono ?_;rintro e W1 ⟨rfl,b1⟩;have z1 := stay x0d b1)
   | (go_at_call_of 48 s.txt;refine (Gf s.txt _ (by omega)).mono ?_;rintro e W2 ⟨rfl,b2⟩;have z2 := stay z1 b2)
   | (go_at_call_of 48 s.left;refine (Gf s.left _ (by omega)).mono ?_;rintro e W3 ⟨rfl,b3⟩;have z3 := stay z2 b3))
 have y1 := stay (stay (stay (show W0.drew.heap[w.heap.size + 1]? = _ from x1) b1) b2) b3
 have kw : Below w.heap.size w W3 := (((kk.drew).trans (b1.mono kk.drew.size)).trans (b2.mono ((kk.drew).trans (b1.mono kk.drew.size)).size)).trans (b3.mono (((kk.drew).trans (b1.mono kk.drew.size)).trans (b2.mono ((kk.drew).trans (b1.mono kk.drew.size)).size)).size);have zX := q09 (q0v (q0u z3));have kX : Below w.heap.size w (((W3.setCell ⟨w.heap.size,2,none⟩ (.string s.mid)).setCell ⟨w.heap.size,4,none⟩ (.string s.txt)).setCell ⟨w.heap.size,5,none⟩ (.string s.left)) := Gi (Gi (Gi kw (qd _) _) (qd _) _) (qd _) _;have yX : (((W3.setCell ⟨w.heap.size,2,none⟩ (.string s.mid)).setCell ⟨w.heap.size,4,none⟩ (.string s.txt)).setCell ⟨w.heap.size,5,none⟩ (.string s.left)).heap[w.heap.size + 1]? = _ := (heap_setCell_other _ _ _ _ (by simp)).trans ((heap_setCell_other _ _ _ _ (by simp)).trans ((heap_setCell_other _ _ _ _ (by simp)).trans y1))
 generalize ((W3.setCell ⟨w.heap.size,2,none⟩ (.string s.mid)).setCell ⟨w.heap.size,4,none⟩ (.string s.txt)).setCell ⟨w.heap.size,5,none⟩ (.string s.left) = X at zX kX yX;clear x0 x0d x1 kk z1 z2 z3 y1 kw b1 b2 b3 HS HW0;obtain ⟨c0,c1,c2,c3,c4,c5,c6,cf⟩ := Z8 zX;have cf3 := cf 3;obtain ⟨i0,hi,hzz⟩ := Option.map_eq_some_iff.1 qgl;simp only [Prod.mk.injEq] at hzz;obtain ⟨hz0,hz1,hz2⟩ := hzz
 rcases HI.out with ⟨hl0,p0,n0,rfl⟩ | ⟨b,o,c,rfl,hcells⟩
 ·cases p0 with
  | none =>
   have HX : (X.setCell ⟨w.heap.size,3,none⟩ (.slice none 0 0)).heap[w.heap.size + 1]? = some (.cells zSq 35 (0,0)) := (heap_setCell_other _ _ _ _ (by simp)).trans yX
   go_wp2_with (refine qh rfl 35 (.tmp 2) _ rfl (w.heap.size + 1) #[.int .i64 s.at',.int .u8 s.mark,.string s.mid,.slice none 0 0,.string s.txt,.string s.left,.bool s.late] rfl rfl _ _ HX (by kernel_rfl) rfl (by simp [Value.oneCell']) ?_)
   (try simp only [Exit.inBlock,Exit.then])
   refine qk (v := .agg #[.int .i64 s.at',.int .u8 s.mark,.string s.mid,.slice none 0 0,.string s.txt,.string s.left,.bool s.late]) ?_ rfl ⟨_,rfl,qkc (by rw [hl0];exact World.ownsRow_nil _ _ _ _) zX yX,qi (Gi kX (qd _) _) (by omega) _⟩
   exact qn rfl _ _ (w.heap.size + 1) _ _ _ _ rfl (qj _ _ _ _ _ _ HX) Tryz.underlying35 rfl (by kernel_rfl)
  | some a0 =>
   have HX : (X.setCell ⟨w.heap.size,3,none⟩ (.slice none 0 0)).heap[w.heap.size + 1]? = some (.cells zSq 35 (0,0)) := (heap_setCell_other _ _ _ _ (by simp)).trans yX
   go_wp2_with (refine qh rfl 35 (.tmp 2) _ rfl (w.heap.size + 1) #[.int .i64 s.at',.int .u8 s.mark,.string s.mid,.slice none 0 0,.string s.txt,.string s.left,.bool s.late] rfl rfl _ _ HX (by kernel_rfl) rfl (by simp [Value.oneCell']) ?_)
   (try simp only [Exit.inBlock,Exit.then])
   refine qk (v := .agg #[.int .i64 s.at',.int .u8 s.mark,.string s.mid,.slice none 0 0,.string s.txt,.string s.left,.bool s.late]) ?_ rfl ⟨_,rfl,qkc (by rw [hl0];exact World.ownsRow_nil _ _ _ _) zX yX,qi (Gi kX (qd _) _) (by omega) _⟩
   exact qn rfl _ _ (w.heap.size + 1) _ _ _ _ rfl (qj _ _ _ _ _ _ HX) Tryz.underlying35 rfl (by kernel_rfl)
 ·have hown : X.ownsRow w.heap.size 3 1 (.slice none 0 0) 0 [] := World.ownsRow_nil _ _ _ _
  have HCL : Hid (∀ j u,(ints s.ps)[j]? = some u → X.cell? ((⟨b,o,none⟩ : Addr).add j) = some u) := fun j u hj => by
   have h1 := hcells j u hj;rw [Addr.add_mid] at h1 ⊢;have hlt := World.block_lt_of_cell? w _ h1;unfold World.cell? at h1 ⊢;rw [kX.block b hlt];exact h1
  have hil := qx8 s.ps;have HYX : Hid (X.heap[w.heap.size + 1]? = _) := yX;have HKX : Hid (Below w.heap.size w X) := kX;have hks := kX.size;have hy1 := Xj yX
  go_wp2_with (first
   | (at_builtin; refine wpList_append_own _ rfl _ _ 33 rfl w.heap.size 3 i0 (.int .i64 0) 1 8 qam hi hz0 hz1 hz2 rfl (by decide) (.slice none 0 0) 0 [] rfl hown ⟨b, o, none⟩ s.ps.length c (ints s.ps) rfl (by rw [hil]; omega) HCL.out (by intro u hu; simp [ints] at hu; obtain ⟨y, -, rfl⟩ := hu; rfl) (by unfold maxLen; omega) (by omega) hks ?_
      intro v3 W4 hown3 hgrow hnil;obtain ⟨pa,pc,rfl⟩ := Gg hown3;have zY : W4.heap[w.heap.size]? = _ := (hgrow.block _ (by omega) (by simp [Value.ownBlock])).trans zX
      have yY : W4.heap[w.heap.size + 1]? = _ := (hgrow.block _ (by omega) (by simp [Value.ownBlock])).trans HYX.out
      obtain ⟨e0,e1,e2,e3,e4,e5,e6,ef⟩ := Z8 zY;have ef3 := ef 3
      have HX : (W4.setCell ⟨w.heap.size,3,none⟩ (.slice pa s.ps.length pc)).heap[w.heap.size + 1]? = some (.cells zSq 35 (0,0)) := (heap_setCell_other _ _ _ _ (by simp)).trans yY)
   | (refine qh rfl 35 (.tmp 2) _ rfl (w.heap.size + 1) (sAq s (.slice pa s.ps.length pc)) rfl rfl _ _ HX (by kernel_rfl) rfl (by simp [Value.oneCell']) ?_))
  have kY : Below w.heap.size w W4 := HKX.out.grown hgrow hks (fun k hk => by simp [Value.ownBlock] at hk)
  (try simp only [Exit.inBlock,Exit.then])
  refine qk (v := .agg (sAq s (.slice pa s.ps.length pc))) ?_ rfl ⟨_,rfl,qkc (by have q := hown3;rw [Nat.zero_add,List.nil_append] at q;exact q) zY yY,qi (Gi kY (qd _) _) (by omega) _⟩
  exact qn rfl _ _ (w.heap.size + 1) _ _ _ _ rfl (qj _ _ _ _ _ _ HX) Tryz.underlying35 rfl (by kernel_rfl)
theorem qhz (n : Int) (w : World) : Calls qP 77 #[.int .i64 n] w fun e w' => e = .returned (.bool (Vr n)) ∧ w' = w := by
 go_enter Tryz.func77,Tryz.ntmps77;go_wp2
 all_goals (go_ret;exact ⟨Qh (by rw [Bool.eq_iff_iff];simp [Vr];try omega),rfl⟩)
theorem qvv (x : UInt8) (w : World) : Calls qP 78 #[.int .u8 (x.toNat : Int)] w fun e w' => e = .returned (.bool (high x)) ∧ w' = w := by
 go_enter Tryz.func78,Tryz.ntmps78;go_wp2
 all_goals (go_ret;exact ⟨Qh (by rw [Bool.eq_iff_iff];simp [high];try omega),rfl⟩)
theorem qsm (p : UInt8 → Bool) (s : ByteArray) (k : Nat) (hk : k < s.size) : (s.data.toList.take (k + 1)).all p = ((s.data.toList.take k).all p && p s[k]) := by
 have hl : k < s.data.toList.length := by rw [Array.length_toList];exact hk
 rw [List.take_succ_eq_append_getElem hl,List.all_append];simp only [List.all_cons,List.all_nil,Bool.and_true]
 rfl
theorem qr6 (p : UInt8 → Bool) (s : ByteArray) (k : Nat) (hk : k < s.size) (h : p s[k] = false) : Ud p s = false := by
 unfold Ud;rw [← Bool.not_eq_true,List.all_eq_true];intro hc
 have := hc s[k] (by
  show s.data[k] ∈ s.data.toList
  exact Array.getElem_mem_toList ..)
 rw [h] at this;exact absurd this (by simp)
theorem qa7 (s : ByteArray) (w : World) (hs : s.size ≤ 9223372036854775807) :
  Calls qP 74 #[.string s,.func (.func 75) #[] #[]] w fun e w' => e = .returned (.bool (Ud Zx s)) ∧ w' = w := by
 go_enter Tryz.func74,Tryz.ntmps74;go_wp2_with fail;go_loopg [8] s.size (fun q i wr => ∃ k : Nat,i = .int .i64 (k : Int) ∧ k ≤ s.size ∧ s.size - k ≤ q ∧ wr = w ∧ (s.data.toList.take k).all Zx = true)
 case atStart => exact ⟨0,rfl,by omega,by omega,rfl,rfl⟩
 case round =>
  obtain ⟨k,rfl,hk,hq,rfl,hall⟩ := hrel;have HA : Hid ((s.data.toList.take k).all Zx = true) := hall;clear hall
  by_cases hlt : k < s.size
  ·have lt1 : ((k : Int) < (s.size : Int)) := by omega
   have HC := qsm Zx s k hlt;rw [HA.out,Bool.true_and] at HC;have HCC : Hid _ := HC;clear HC;have HX := Ga s[k] wr
   cases hp : Zx s[k] with
   | true =>
    rw [hp] at HX;go_wp2_with fail;refine HX.mono ?_;rintro e W5 ⟨rfl,rfl⟩;go_wp2_with fail;go_roundg (s.size - (k + 1))
    case measure => omega
    case rel => exact ⟨k + 1,rfl,by omega,by omega,rfl,HCC.out.trans hp⟩
   | false =>
    rw [hp] at HX;go_wp2_with fail;refine HX.mono ?_;rintro e W5 ⟨rfl,rfl⟩;go_wp2_with fail;go_ret;exact ⟨Qh (qr6 Zx s k hlt hp).symm,rfl⟩
  ·have lt1 : ¬ ((k : Int) < (s.size : Int)) := by omega
   have hkb : s.data.toList.take k = s.data.toList := List.take_of_length_le (by rw [Array.length_toList];show s.size ≤ k;omega)
   go_wp2_with fail;go_ret;exact ⟨Qh (by rw [← HA.out,hkb];rfl),rfl⟩
theorem Fy (s : ByteArray) (w : World) (hs : s.size ≤ 9223372036854775807) :
  Calls qP 74 #[.string s,.func (.func 78) #[] #[]] w fun e w' => e = .returned (.bool (Ud high s)) ∧ w' = w := by
 go_enter Tryz.func74,Tryz.ntmps74;go_wp2_with fail;go_loopg [8] s.size (fun q i wr => ∃ k : Nat,i = .int .i64 (k : Int) ∧ k ≤ s.size ∧ s.size - k ≤ q ∧ wr = w ∧ (s.data.toList.take k).all high = true)
 case atStart => exact ⟨0,rfl,by omega,by omega,rfl,rfl⟩
 case round =>
  obtain ⟨k,rfl,hk,hq,rfl,hall⟩ := hrel;have HA : Hid ((s.data.toList.take k).all high = true) := hall;clear hall
  by_cases hlt : k < s.size
  ·have lt1 : ((k : Int) < (s.size : Int)) := by omega
   have HC := qsm high s k hlt;rw [HA.out,Bool.true_and] at HC;have HCC : Hid _ := HC;clear HC;have HX := qvv s[k] wr
   cases hp : high s[k] with
   | true =>
    rw [hp] at HX;go_wp2_with fail;refine HX.mono ?_;rintro e W5 ⟨rfl,rfl⟩;go_wp2_with fail;go_roundg (s.size - (k + 1))
    case measure => omega
    case rel => exact ⟨k + 1,rfl,by omega,by omega,rfl,HCC.out.trans hp⟩
   | false =>
    rw [hp] at HX;go_wp2_with fail;refine HX.mono ?_;rintro e W5 ⟨rfl,rfl⟩;go_wp2_with fail;go_ret;exact ⟨Qh (qr6 high s k hlt hp).symm,rfl⟩
  ·have lt1 : ¬ ((k : Int) < (s.size : Int)) := by omega
   have hkb : s.data.toList.take k = s.data.toList := List.take_of_length_le (by rw [Array.length_toList];show s.size ≤ k;omega)
   go_wp2_with fail;go_ret;exact ⟨Qh (by rw [← HA.out,hkb];rfl),rfl⟩
theorem qzn (l : List Int) (k : Nat) (hk : k < l.length) : (l.take (k + 1)).any Vr = ((l.take k).any Vr || Vr l[k]) := by
 rw [List.take_succ_eq_append_getElem hk,List.any_append];simp
theorem qzm (l : List Int) (k : Nat) (hk : k < l.length) (h : Vr l[k] = true) : qag l = true := List.any_eq_true.2 ⟨_,List.getElem_mem hk,h⟩
theorem qh3 (l : List Int) (pv : Value) (w : World) (hI : Qv w pv l) (h16 : l.length ≤ 16) :
  Calls qP 119 #[pv,.func (.func 77) #[] #[]] w fun e w' => ∃ i : Int,e = .returned (.int .i64 i) ∧ decide (0 ≤ i) = qag l ∧ w' = w := by
 rcases hI with ⟨rfl,p0,n0,rfl⟩ | ⟨b,o,c,rfl,hc⟩
 ·go_enter Tryz.func119, Tryz.ntmps119
  go_wp2_with fail;go_loopg [8] 0 (fun q i wr => i = .int .i64 0 ∧ wr = w)
  case atStart => exact ⟨rfl,rfl⟩
  case round =>
   obtain ⟨rfl,rfl⟩ := hrel;go_wp2_with fail;go_ret;exact ⟨_,rfl,rfl,rfl⟩
 ·have HC : Hid (∀ j u, (ints l)[j]? = some u → w.cell? ((⟨b, o, none⟩ : Addr).add j) = some u) := hc
  clear hc;go_enter Tryz.func119,Tryz.ntmps119;go_wp2_with fail;go_loopg [8] l.length (fun q i wr => ∃ k : Nat,i = .int .i64 (k : Int) ∧ k ≤ l.length ∧ l.length - k ≤ q ∧ wr = w ∧ (l.take k).any Vr = false)
  case atStart => exact ⟨0,rfl,by omega,by omega,rfl,rfl⟩
  case round =>
   obtain ⟨k,rfl,hk,hq,rfl,hall⟩ := hrel;have HA : Hid ((l.take k).any Vr = false) := hall;clear hall
   by_cases hlt : k < l.length
   ·have lt1 : ((k : Int) < (l.length : Int)) := by omega
    have hck := HC.out k (.int .i64 l[k]) (by simp [ints,List.getElem?_eq_getElem hlt])
    rw [Addr.add_mid] at hck;have HX := qhz l[k] wr;have HCU : Hid _ := qzn l k hlt
    cases hp : Vr l[k] with
    | false =>
     rw [hp] at HX;go_wp2_with fail;refine HX.mono ?_;rintro e W5 ⟨rfl,rfl⟩;go_wp2_with fail;go_roundg (l.length - (k + 1))
     case measure => omega
     case rel => exact ⟨k + 1,rfl,by omega,by omega,rfl,by rw [HCU.out,HA.out,hp];rfl⟩
    | true =>
     rw [hp] at HX;go_wp2_with fail;refine HX.mono ?_;rintro e W5 ⟨rfl,rfl⟩;go_wp2_with fail;go_ret;exact ⟨_,rfl,by rw [qzm l k hlt hp];simp,rfl⟩
   ·have lt1 : ¬ ((k : Int) < (l.length : Int)) := by omega
    have hkb : l.take k = l := List.take_of_length_le (by omega)
    go_wp2_with fail;go_ret;have h9 := HA.out;rw [hkb] at h9;exact ⟨_,rfl,by rw [show qag l = false from h9];rfl,rfl⟩
theorem Yx (l : List Int) (pv : Value) (w : World) (hI : Qv w pv l) (h16 : l.length ≤ 16) :
  Calls qP 76 #[pv,.func (.func 77) #[] #[]] w fun e w' => e = .returned (.bool (qag l)) ∧ w' = w := by
 have HX := qh3 l pv w hI h16;clear hI;go_enter Tryz.func76,Tryz.ntmps76;go_wp2_with fail;refine HX.mono ?_;rintro e W5 ⟨i,rfl,hi,rfl⟩;have HI : Hid (decide (0 ≤ i) = qag l) := hi;clear hi;go_wp2_with fail;go_ret;exact ⟨Qh HI.out,rfl⟩
theorem qdq (s : ByteArray) : s.toList = [] ↔ s.size = 0 := by
 rw [← beq_iff_eq,qds,decide_eq_true_eq]
theorem qre (a mk : Int) (mid txt left : ByteArray) (p : Option Addr) (n c : Nat) (late : Bool) (w : World) :
  Calls qP 46 #[.agg #[.int .i64 a,.int .u8 mk,.string mid,.slice p n c,.string txt,.string left,.bool late]] w fun e w' => e = .returned (.bool (decide (mk = 0) && (decide (mid.size = 0) && (decide (n = 0) && (decide (txt.size = 0) && (decide (left.size = 0) && !late)))))) ∧ Below w.heap.size w w' := by
 have x0 := qf w (.cells #[.int .i64 a,.int .u8 mk,.string mid,.slice p n c,.string txt,.string left,.bool late] 35);have kb : Below w.heap.size w (w.alloc (.cells #[.int .i64 a,.int .u8 mk,.string mid,.slice p n c,.string txt,.string left,.bool late] 35)) := (qr _ _).alloc (qd _) _;obtain ⟨c0,c1,c2,c3,c4,c5,c6,cf⟩ := Z8 x0;clear cf;go_enter Tryz.func46,Tryz.ntmps46;go_wp2
 all_goals (go_ret;exact ⟨Qh (by clear c0 c1 c2 c3 c4 c5 c6 x0 kb;(try simp only [qdq] at *);simp only [*,decide_true,decide_false,Bool.true_and,Bool.false_and,Bool.and_false]),(qr _ _).alloc (qd _) _⟩)
theorem Qv.next {w w' : World} {v : Value} {l : List Int} (h : Qv w v l) (hb : Below w.heap.size w w') : Qv w' v l := by
 rcases h with h | ⟨b,o,c,hv,hc⟩
 ·exact .inl h
 ·refine .inr ⟨b, o, c, hv, fun j u hj => ?_⟩
  have h1 := hc j u hj;rw [Addr.add_mid] at h1 ⊢;exact Qa hb h1
theorem ieT (s : ByteArray) : (s.toList.isEmpty = true) = (s.size = 0) := propext (by rw [List.isEmpty_iff,qdq])
theorem ieF (s : ByteArray) : (s.toList.isEmpty = false) = ¬ (s.size = 0) := propext (by rw [← ieT,Bool.not_eq_true])
theorem le2 (a : Nat) : ((a : Int) ≤ 2) = (a ≤ 2) := propext ⟨fun h => by omega,fun h => by omega⟩
theorem le16 (a : Nat) : ((a : Int) ≤ 16) = (a ≤ 16) := propext ⟨fun h => by omega,fun h => by omega⟩
theorem le64 (a : Nat) : ((a : Int) ≤ 64) = (a ≤ 64) := propext ⟨fun h => by omega,fun h => by omega⟩
theorem lt2 (a : Nat) : ((2 : Int) < (a : Int)) = ¬ (a ≤ 2) := propext ⟨fun h => by omega,fun h => by omega⟩
theorem lt16 (a : Nat) : ((16 : Int) < (a : Int)) = ¬ (a ≤ 16) := propext ⟨fun h => by omega,fun h => by omega⟩
theorem lt64 (a : Nat) : ((64 : Int) < (a : Int)) = ¬ (a ≤ 64) := propext ⟨fun h => by omega,fun h => by omega⟩
theorem qd6 (s : St) (p : Option Addr) (c : Nat) (w : World) (hT : Tabs w) (hI : Qv w (.slice p s.ps.length c) s.ps) (hm : s.mid.size ≤ 9223372036854775807) (ht : s.txt.size ≤ 9223372036854775807) (h2 : ¬ s.at' = 2) (h0 : ¬ s.mark = 0) :
  Calls qP 47 #[.agg (sAq s (.slice p s.ps.length c))] w fun e w' => e = .returned (.bool (parts s)) ∧ Below w.heap.size w w' := by
 have x0 := qf w (.cells (sAq s (.slice p s.ps.length c)) 35);have kb : Below w.heap.size w (w.alloc (.cells (sAq s (.slice p s.ps.length c)) 35)) := (qr _ _).alloc (qd _) _;obtain ⟨c0,c1,c2,c3,c4,c5,c6,cf⟩ := Z8 x0;have b2 : (s.at' == 2) = false := by rw [beq_eq_false_iff_ne];exact h2
 have b0 : (s.mark == 0) = false := by rw [beq_eq_false_iff_ne];exact h0
 have HX0 : Hid ((w.alloc (.cells (sAq s (.slice p s.ps.length c)) 35)).heap[w.heap.size]? = some (.cells (sAq s (.slice p s.ps.length c)) 35 (0,0))) := x0;have HKB : Hid (Below w.heap.size w (w.alloc (.cells (sAq s (.slice p s.ps.length c)) 35))) := kb;have HT : Hid (Tabs (w.alloc (.cells (sAq s (.slice p s.ps.length c)) 35))) := hT.next kb;have HI : Hid (∀ W,Below w.heap.size w W → Qv W (.slice p s.ps.length c) s.ps) := fun W hb => hI.next hb
 have HPA : Hid (parts s = (!(decide (s.at' = 2) && decide (s.mid.size = 0)) && ((decide (s.left.size = 0) || !full s.left) && ((decide (s.mark = 0) || Xa s.mark) && (decide (s.mid.size ≤ 2) && (Ud Zx s.mid && (decide (s.ps.length ≤ 16) && (!qag s.ps && (decide (s.txt.size ≤ 64) && Ud high s.txt))))))))) := rfl;have H2 : Hid (¬ s.at' = 2) := h2;have H0 : Hid (¬ s.mark = 0) := h0;have HMT : Hid (s.mid.size ≤ 9223372036854775807 ∧ s.txt.size ≤ 9223372036854775807) := ⟨hm,ht⟩;generalize parts s = res at HPA ⊢;clear cf x0 kb hT hI h2 h0 hm ht;go_enter Tryz.func47,Tryz.ntmps47
 go_wp2_with (first
  | (go_at_call 72;refine (Vy s.left _ HT.out).mono ?_;rintro e W1 ⟨rfl,b1⟩;obtain ⟨d0,d1,d2,d3,d4,d5,d6,df⟩ := Z8 (stay HX0.out b1);have HK1 : Hid (Below w.heap.size w W1) := HKB.out.trans (b1.mono HKB.out.size);clear b1 df)
  | (go_at_call 73;refine (Gw _ _).mono ?_;rintro e W2 ⟨rfl,e2⟩;rw [e2];clear e2 W2)
  | (go_at_call 76;refine (Yx s.ps _ _ (HI.out _ (by first | exact HK1.out | exact HKB.out)) (by omega)).mono ?_;rintro e W2 ⟨rfl,e2⟩;rw [e2];clear e2 W2)
  | (go_at_call_of 74 s.mid;refine (qa7 _ _ HMT.out.1).mono ?_;rintro e W2 ⟨rfl,e2⟩;rw [e2];clear e2 W2)
  | (go_at_call_of 74 s.txt;refine (Fy _ _ HMT.out.2).mono ?_;rintro e W2 ⟨rfl,e2⟩;rw [e2];clear e2 W2))
 all_goals (go_ret;refine ⟨Qh ?_,by first | exact HK1.out | exact HKB.out⟩)
 all_goals (have q2 := H2.out;have q0 := H0.out;rw [HPA.out];clear HPA H2 H0 HT HI HMT HX0 HKB b2 b0 c0 c1 c2 c3 c4 c5 c6;(try simp only [qdq,le2,le16,le64,lt2,lt16,lt64] at *);simp only [*];simp)
theorem qdf (s : St) (p : Option Addr) (c : Nat) (w : World) (hT : Tabs w) (hI : Qv w (.slice p s.ps.length c) s.ps) (hm : s.mid.size ≤ 9223372036854775807) (ht : s.txt.size ≤ 9223372036854775807) (h2 : ¬ s.at' = 2) (h0 : s.mark = 0) :
  Calls qP 47 #[.agg (sAq s (.slice p s.ps.length c))] w fun e w' => e = .returned (.bool (parts s)) ∧ Below w.heap.size w w' := by
 have x0 := qf w (.cells (sAq s (.slice p s.ps.length c)) 35);have kb : Below w.heap.size w (w.alloc (.cells (sAq s (.slice p s.ps.length c)) 35)) := (qr _ _).alloc (qd _) _;obtain ⟨c0,c1,c2,c3,c4,c5,c6,cf⟩ := Z8 x0;have b2 : (s.at' == 2) = false := by rw [beq_eq_false_iff_ne];exact h2
 have b0 : (s.mark == 0) = true := by rw [beq_iff_eq];exact h0
 have HX0 : Hid ((w.alloc (.cells (sAq s (.slice p s.ps.length c)) 35)).heap[w.heap.size]? = some (.cells (sAq s (.slice p s.ps.length c)) 35 (0,0))) := x0;have HKB : Hid (Below w.heap.size w (w.alloc (.cells (sAq s (.slice p s.ps.length c)) 35))) := kb;have HT : Hid (Tabs (w.alloc (.cells (sAq s (.slice p s.ps.length c)) 35))) := hT.next kb;have HI : Hid (∀ W,Below w.heap.size w W → Qv W (.slice p s.ps.length c) s.ps) := fun W hb => hI.next hb
 have HPA : Hid (parts s = (!(decide (s.at' = 2) && decide (s.mid.size = 0)) && ((decide (s.left.size = 0) || !full s.left) && ((decide (s.mark = 0) || Xa s.mark) && (decide (s.mid.size ≤ 2) && (Ud Zx s.mid && (decide (s.ps.length ≤ 16) && (!qag s.ps && (decide (s.txt.size ≤ 64) && Ud high s.txt))))))))) := rfl;have H2 : Hid (¬ s.at' = 2) := h2;have H0 : Hid (s.mark = 0) := h0;have HMT : Hid (s.mid.size ≤ 9223372036854775807 ∧ s.txt.size ≤ 9223372036854775807) := ⟨hm,ht⟩;generalize parts s = res at HPA ⊢;clear cf x0 kb hT hI h2 h0 hm ht;go_enter Tryz.func47,Tryz.ntmps47
 go_wp2_with (first
  | (go_at_call 72;refine (Vy s.left _ HT.out).mono ?_;rintro e W1 ⟨rfl,b1⟩;obtain ⟨d0,d1,d2,d3,d4,d5,d6,df⟩ := Z8 (stay HX0.out b1);have HK1 : Hid (Below w.heap.size w W1) := HKB.out.trans (b1.mono HKB.out.size);clear b1 df)
  | (go_at_call 73;refine (Gw _ _).mono ?_;rintro e W2 ⟨rfl,e2⟩;rw [e2];clear e2 W2)
  | (go_at_call 76;refine (Yx s.ps _ _ (HI.out _ (by first | exact HK1.out | exact HKB.out)) (by omega)).mono ?_;rintro e W2 ⟨rfl,e2⟩;rw [e2];clear e2 W2)
  | (go_at_call_of 74 s.mid;refine (qa7 _ _ HMT.out.1).mono ?_;rintro e W2 ⟨rfl,e2⟩;rw [e2];clear e2 W2)
  | (go_at_call_of 74 s.txt;refine (Fy _ _ HMT.out.2).mono ?_;rintro e W2 ⟨rfl,e2⟩;rw [e2];clear e2 W2))
 all_goals (go_ret;refine ⟨Qh ?_,by first | exact HK1.out | exact HKB.out⟩)
 all_goals (have q2 := H2.out;have q0 := H0.out;rw [HPA.out];clear HPA H2 H0 HT HI HMT HX0 HKB b2 b0 c0 c1 c2 c3 c4 c5 c6;(try simp only [qdq,le2,le16,le64,lt2,lt16,lt64] at *);simp only [*];simp)
end Prs
end Go.Proofs.YtooobiigijphkaaGreatDoor
