/- Parts of the proof, shortened by a program. -/
import Derived.Test.YtooobiigijphkaaGreatDoorPartU
import Derived.BigFrame
import Derived.Deep.Cut
set_option maxHeartbeats 16000000
open List renaming setIfInBounds_toArray → qa, set_cons_zero → qb, set_cons_succ → qc
open Nat renaming le_refl → qd
open Go renaming heap_alloc_new → qf, setRow_other → qg, wpList_store_row → qh, wpAnyH_ready → qm
open Go.RowKit.Below renaming refl → qr
open Go.AllReadyH renaming nil → qt
open Go.Proofs.Tryz renaming prog → qP, underlying32 → qu
open Go.Act renaming put → qx
namespace Go.Proofs.YtooobiigijphkaaGreatDoor
set_option linter.unusedVariables false
set_option linter.unusedSimpArgs false
set_option maxRecDepth 100000
open Go.ChangeShapes Go.WideShapes Go.ChangeAt Go.RowKit
namespace Put
open Grd (C SliceAt Qb Qf z0 Q0 flat Qe)
open Prs (Qv Fq EvAt EvsB stV)
def Got2 (Y W : World) (p q : Nat) (s : Scr) (st : Prs.St) (a1 : Option Addr) (n1 c1 : Nat) (a2 : Option Addr) (n2 c2 : Nat) (a3 : Option Addr) (n3 c3 : Nat) (qa : Option Addr) (qc : Nat) : Prop := W.heap[p]? = some (.cells (scT s a1 n1 c1 a2 n2 c2 a3 n3 c3) 32 (0,0)) ∧ W.heap[q]? = some (.cells (stA st qa qc) 35 (0,0)) ∧ Zh W s (.slice a1 n1 c1) (.slice a2 n2 c2) (.slice a3 n3 c3) ∧ Qv W (.slice qa st.ps.length qc) st.ps ∧ Below Y.heap.size Y W
theorem qnp {W : World} {base B : Nat} {e t : TypeId} {v : Value} {n : Nat} {xs : List Value} {A cs : Array Value} (h : W.ownsRow base e 1 v n xs) (hB : W.heap[B]? = some (.cells A t (0,0))) (hne : t ≠ e) : (W.setRow B cs).ownsRow base e 1 v n xs := Ze h fun g hg => qg _ _ _ _ fun q => by
 obtain ⟨-,D,fr,hD⟩ := Qn h g hg;rw [q,hB] at hD;injection hD with hD
 injection hD with _ hD _
 exact hne hD
theorem qaf {Y W : World} {p q : Nat} {s : Scr} {st : Prs.St} {a1 : Option Addr} {n1 c1 : Nat} {a2 : Option Addr} {n2 c2 : Nat} {a3 : Option Addr} {n3 c3 : Nat} {qa : Option Addr} {qc N N2 : Nat} {A B : Array Value} (hp : W.heap[p]? = some (.cells zA 32 (0,0))) (hq : W.heap[q]? = some (.cells zSq 35 (0,0))) (lp : Y.heap.size ≤ p) (lq : Y.heap.size ≤ q) (ky : Below Y.heap.size Y W) (hO : Qo W 0 N s (.slice a1 n1 c1) (.slice a2 n2 c2) (.slice a3 n3 c3)) (hI : W.ownsRow N2 3 1 (.slice qa st.ps.length qc) st.ps.length (Prs.ints st.ps)) (hA : A = scrA s (.slice a1 n1 c1) (.slice a2 n2 c2) (.slice a3 n3 c3) := by rfl) (hB : B = stA st qa qc := by rfl) : (W.setRow p A).heap[q]? = some (.cells zSq 35 (0,0)) ∧ Got2 Y ((W.setRow p A).setRow q B) p q s st a1 n1 c1 a2 n2 c2 a3 n3 c3 qa qc := by
 subst hA hB;have hpq : p ≠ q := fun e => by
  rw [e,hq] at hp;injection hp with hp
  injection hp with _ hp _
  exact absurd hp (by decide)
 have h1 : (W.setRow p (scT s a1 n1 c1 a2 n2 c2 a3 n3 c3)).heap[q]? = some (.cells zSq 35 (0,0)) := (qg _ _ _ _ (Ne.symm hpq)).trans hq;have hO1 := Qo.off hO hp Ql (Nat.zero_le _) fun k hk => qg W p k (scT s a1 n1 c1 a2 n2 c2 a3 n3 c3) hk
 have hO2 := Qo.off hO1 h1 ql3 (Nat.zero_le _) fun k hk => qg (W.setRow p (scT s a1 n1 c1 a2 n2 c2 a3 n3 c3)) q k (stA st qa qc) hk
 exact ⟨h1,(qg _ _ _ _ hpq).trans (setRow_heap _ _ _ _ _ _ hp),setRow_heap _ _ _ _ _ _ h1,hO2.scr,Prs.qdw (qnp (qnp hI hp (by decide)) h1 (by decide)),below_setRow (below_setRow ky lp _) lq _⟩
theorem qru (s : Scr) (cv tv gv : Value) (b : ByteArray) (at' : Int) (w : World) (hT : Tb w) (hV : Zh w s cv tv gv) (n hh : Nat) (hR : Qg s n hh) (hb : b.size ≤ 4000) :
  Calls qP 3 #[.agg (scrA s cv tv gv),.string b,.int .i64 at'] w fun e w' => e = .returned (.bool true) ∧ Below w.heap.size w w' := by
 obtain ⟨ca,cc,rfl⟩ := hV.c.shape;obtain ⟨ta,tc,rfl⟩ := hV.t.slice;obtain ⟨ga,gc,rfl⟩ := hV.g.slice;have x0 := qf w (.cells (scS s ca cc ta tc ga gc) 32);have kb : Below w.heap.size w (w.alloc (.cells (scS s ca cc ta tc ga gc) 32)) := (qr _ _).alloc (qd _) _;have HP : Hid (∀ W,Below w.heap.size w W → Calls qP 5 #[] W fun e w' => e = .returned (.bool true) ∧ Below W.heap.size W w') := fun W h => qeb W (hT.next h).t
 have HF1 : Hid (∀ W,Below w.heap.size w W → Calls qP 4 #[.agg (scS s ca cc ta tc ga gc),.agg (stA (Prs.bare 0) none 0),.string b] W fun e X => ∃ cv' tv' gv' qa qc,e = .returned (.tuple #[.agg (scrA (Gx (Prs.feed (Prs.bare 0) b.data.toList).2 n hh s) cv' tv' gv'),.agg (stA (Prs.feed (Prs.bare 0) b.data.toList).1 qa qc),.int .i64 0]) ∧ Qo X 0 W.heap.size (Gx (Prs.feed (Prs.bare 0) b.data.toList).2 n hh s) cv' tv' gv' ∧ X.ownsRow W.heap.size 3 1 (.slice qa (Prs.feed (Prs.bare 0) b.data.toList).1.ps.length qc) (Prs.feed (Prs.bare 0) b.data.toList).1.ps.length (Prs.ints (Prs.feed (Prs.bare 0) b.data.toList).1.ps) ∧ Below W.heap.size W X) := fun W h => qgw (hT.next h) (hV.next h) hR (Prs.bare 0) none 0 (qx4 W) okB b hb
 have hR1 := qip (Prs.feed (Prs.bare 0) b.data.toList).2 s n hh hR;have hok1 := Prs.qli b.data.toList (Prs.bare 0) okB;have hpl1 := hok1.pl;have HCUT : Hid (∀ k,k ≤ b.size → ∃ s2 st2,Qg s2 n hh ∧ (∀ W,Below w.heap.size w W → Calls qP 4 #[.agg (scS s ca cc ta tc ga gc),.agg (stA (Prs.bare 0) none 0),.string (b.extract 0 k)] W fun e X => ∃ cv' tv' gv' qa qc,e = .returned (.tuple #[.agg (scrA s2 cv' tv' gv'),.agg (stA st2 qa qc),.int .i64 0]) ∧ Qo X 0 W.heap.size s2 cv' tv' gv' ∧ X.ownsRow W.heap.size 3 1 (.slice qa st2.ps.length qc) st2.ps.length (Prs.ints st2.ps) ∧ Below W.heap.size W X) ∧ (∀ W cv tv gv qa qc,Below w.heap.size w W → Zh W s2 cv tv gv → Qv W (.slice qa st2.ps.length qc) st2.ps → Calls qP 4 #[.agg (scrA s2 cv tv gv),.agg (stA st2 qa qc),.string (b.extract k b.size)] W fun e X => ∃ cv' tv' gv' qa qc,e = .returned (.tuple #[.agg (scrA (Gx (Prs.feed (Prs.bare 0) b.data.toList).2 n hh s) cv' tv' gv'),.agg (stA (Prs.feed (Prs.bare 0) b.data.toList).1 qa qc),.int .i64 0]) ∧ Qo X 0 W.heap.size (Gx (Prs.feed (Prs.bare 0) b.data.toList).2 n hh s) cv' tv' gv' ∧ X.ownsRow W.heap.size 3 1 (.slice qa (Prs.feed (Prs.bare 0) b.data.toList).1.ps.length qc) (Prs.feed (Prs.bare 0) b.data.toList).1.ps.length (Prs.ints (Prs.feed (Prs.bare 0) b.data.toList).1.ps) ∧ Below W.heap.size W X)) := fun k hk => by
  have hz1 : (b.extract 0 k).size ≤ 4000 := by rw [ByteArray.size_extract];omega
  have hz2 : (b.extract k b.size).size ≤ 4000 := by rw [ByteArray.size_extract];omega
  have hcut := Prs.qxi (Prs.bare 0) b k;have hR2 := qip (Prs.feed (Prs.bare 0) (b.extract 0 k).data.toList).2 s n hh hR;refine ⟨_,_,hR2,fun W h => qgw (hT.next h) (hV.next h) hR (Prs.bare 0) none 0 (qx4 W) okB _ hz1,fun W cv tv gv qa qc h hv hi => ?_⟩
  have key := qgw (hT.next h) hv hR2 _ qa qc hi (Prs.qli _ _ okB) (b.extract k b.size) hz2;rw [← qjo] at key;rw [hcut];exact key
 have HCK : Hid (∀ W cv tv gv,Below w.heap.size w W → Zh W (Gx (Prs.feed (Prs.bare 0) b.data.toList).2 n hh s) cv tv gv → Calls qP 6 #[.agg (scrA (Gx (Prs.feed (Prs.bare 0) b.data.toList).2 n hh s) cv tv gv)] W fun e w' => e = .returned (.int .i64 0) ∧ Below W.heap.size W w') := fun W cv tv gv h hv => by
  have := Zt _ cv tv gv W (hT.next h).t hv hR1.fits;rwa [Yh hR1] at this
 have HSM : Hid (Small (Gx (Prs.feed (Prs.bare 0) b.data.toList).2 n hh s)) := q0a hR1;generalize Gx (Prs.feed (Prs.bare 0) b.data.toList).2 n hh s = s1 at *;generalize (Prs.feed (Prs.bare 0) b.data.toList).1 = st1 at *;have HX0 : Hid _ := x0;have HKB : Hid _ := kb;clear x0 kb hT hV hR hR1 hok1;go_enter Tryz.func3,Tryz.ntmps3;go_wp2_with (refine wpList_load_row rfl 32 (.tmp 3) rfl w.heap.size rfl _ _ _ _ HX0.out qu rfl (by kernel_rfl) ?_)
 refine (HF1.out _ HKB.out).mono ?_;rintro e V1 ⟨cv1,tv1,gv1,qa1,qc1,rfl,hO,hI,b1⟩;have hv1 := hO;obtain ⟨d11,m11,e11,d21,m21,e21,d31,m31,e31,rfl,rfl,rfl⟩ := hO.shapes;have HB1 : Hid (Below w.heap.size w V1) := HKB.out.trans (b1.mono HKB.out.size);have HX1 : Hid (V1.heap[w.heap.size]? = _) := Grd.carry HX0.out b1;obtain ⟨k1,k2,k3,k4,k5,k6⟩ := qx7 (A := (scT s1 d11 m11 e11 d21 m21 e21 d31 m31 e31)) (B := (stA st1 qa1 qc1)) HB1.out;have HL1 : Hid _ := k1;have HL2 : Hid _ := k2;have HM1 : Hid _ := k3;have HM2 : Hid _ := k4;have HX1b : Hid _ := Grd.carry HX1.out k5;have HV1 : Hid (Zh _ s1 _ _ _) := (hv1.next k5).scr;have HI1 : Hid (Qv _ _ st1.ps) := (Prs.qdw hI).next k5;have HN1 : Hid _ := k6;clear hO b1 k1 k2 k3 k4 k5 k6 hv1 HX1 hI HF1 HX0 HKB HB1;go_upto_region 2 with (first | (refine qh rfl 32 (.tmp 7) _ rfl V1.heap.size (scT s1 d11 m11 e11 d21 m21 e21 d31 m31 e31) rfl rfl _ _ HL1.out (by kernel_rfl) rfl (Qm _ _ _ _ _ _ _ _ _ _) ?_) | (refine qh rfl 35 (.tmp 8) _ rfl (V1.heap.size + 1) (stA st1 qa1 qc1) rfl rfl _ _ HL2.out (by kernel_rfl) rfl (Yv _ _ _) ?_))
 generalize ((((V1.alloc (.cells zA 32)).alloc (.cells zSq 35)).setRow V1.heap.size (scT s1 d11 m11 e11 d21 m21 e21 d31 m31 e31)).setRow (V1.heap.size + 1) (stA st1 qa1 qc1)) = X1 at *;clear HL1 HL2;go_wp2_with fail;refine (HP.out X1 HN1.out).mono ?_;rintro e Y ⟨rfl,bp⟩;have HBY : Hid (Below w.heap.size w Y) := HN1.out.trans (bp.mono HN1.out.size);have HXY : Hid (Y.heap[w.heap.size]? = _) := Grd.carry HX1b.out bp;have HMY1 : Hid (Y.heap[V1.heap.size]? = _) := Grd.carry HM1.out bp;have HMY2 : Hid (Y.heap[V1.heap.size + 1]? = _) := Grd.carry HM2.out bp;have HVY : Hid (Zh Y s1 _ _ _) := HV1.out.next bp;have HIY : Hid (Qv Y _ st1.ps) := HI1.out.next bp;have hlw := Qc HXY.out;clear bp HX1b HM1 HM2 HV1 HI1 HN1 HP;go_upto_region 4 with fail
 go_cut [38] from 31 to 38 (fun s38 wx => (∃ c : Bool,s38 = .bool c ∧ (c = false → 0 ≤ at' ∧ at' ≤ b.size)) ∧ Y = wx)
 case first =>
  go_wp2_with fail
  all_goals go_meet
  all_goals refine ⟨⟨_,rfl,fun h => ?_⟩,rfl⟩
  all_goals (simp at h <;> omega)
 case rest =>
  obtain ⟨⟨c,rfl,hc⟩,hwx⟩ := hcut;subst hwx;go_upto_if 38 with fail
  go_cut [2] from 39 to 41 (fun s2 wx => (∃ k : Nat,s2 = .int .i64 (k : Int) ∧ k ≤ b.size) ∧ Y = wx)
  case first =>
   cases c with
   | true =>
    go_wp2_with fail
    all_goals go_meet
    exact ⟨⟨b.size / 2,by rw [show ((b.size : Int) / 2) = ((b.size / 2 : Nat) : Int) by omega],by omega⟩,rfl⟩
   | false =>
    obtain ⟨h1,h2⟩ := hc rfl;go_wp2_with fail
    all_goals go_meet
    exact ⟨⟨at'.toNat,by rw [Int.toNat_of_nonneg h1],by omega⟩,rfl⟩
  case rest =>
   obtain ⟨⟨k,rfl,hk⟩,hwx⟩ := hcut;subst hwx;clear hc;obtain ⟨s2,st2,hR2,HF6x,HF7x⟩ := HCUT.out k hk;have HF6 : Hid _ := HF6x;have HF7 : Hid _ := HF7x;clear HF6x HF7x HCUT;go_upto_region 6 with fail
   go_cut [10,11,12] from 42 to 51 (fun s10 s11 s12 wx => ∃ (p q : Nat) (a1 : Option Addr) (n1 c1 : Nat) (a2 : Option Addr) (n2 c2' : Nat) (a3 : Option Addr) (n3 c3 : Nat) (qa : Option Addr) (qc : Nat),s10 = .pointer (some ⟨p,0,none⟩) ∧ s11 = .pointer (some ⟨q,0,none⟩) ∧ s12 = .int .i64 0 ∧ Got2 Y wx p q s2 st2 a1 n1 c1 a2 n2 c2' a3 n3 c3 qa qc)
   case first =>
    refine wp_region_noPanic ?_;have ky : Below Y.heap.size Y Y.drew := (qr _ _).drew;have hS : Y.drew.heap[w.heap.size]? = some (.cells (scS s ca cc ta tc ga gc) 32 (0,0)) := HXY.out;refine wp_region_held_drew (S := fun w' => w'.heap[w.heap.size]? = some (.cells (scS s ca cc ta tc ga gc) 32 (0,0))) (by kernel_rfl) hS (fun hHeld => ?_)
    generalize Y.drew = Z0 at *;refine Qq (i := 0) (v := .agg (scS s ca cc ta tc ga gc)) rfl (by kernel_rfl) (by kernel_rfl) (by kernel_rfl) (fun _ _ _ h => h) (Or.inl ⟨by rfl,?_⟩) hHeld ?_
    ·intro w' hSw
     refine (Xp _ _ _ _ _ _ _ w' ?_).trans ?_
     ·exact (Qs hSw).1
     ·exact congrArg (fun z => Result.ok (Next.value (.agg z)) w') (Qs hSw).2
    (try simp only [qx,qa,qb,qc])
    refine Qq (i := 1) (v := ?_) rfl (by kernel_rfl) (by kernel_rfl) (by kernel_rfl) (fun _ _ _ h => h) (Or.inl ⟨by rfl,?_⟩) hHeld ?_
    rotate_left
    ·intro w' hSw
     go_simp
     (try with_reducible rfl)
    (try simp only [qx,qa,qb,qc])
    refine Qq (i := 2) (v := ?_) rfl (by kernel_rfl) (by kernel_rfl) (by kernel_rfl) (fun _ _ _ h => h) (Or.inl ⟨by rfl,?_⟩) hHeld ?_
    rotate_left
    ·intro w' hSw
     go_simp
     (try with_reducible rfl)
    (try simp only [qx,qa,qb,qc])
    refine Qq (i := 3) (v := ?_) rfl (by kernel_rfl) (by kernel_rfl) (by kernel_rfl) (fun _ _ _ h => h) (Or.inl ⟨by rfl,?_⟩) hHeld ?_
    rotate_left
    ·intro w' hSw
     go_simp
     (try with_reducible rfl)
    (try simp only [qx,qa,qb,qc])
    refine Qq (i := 4) (v := ?_) rfl (by kernel_rfl) (by kernel_rfl) (by kernel_rfl) (fun _ _ _ h => h) (Or.inl ⟨by rfl,?_⟩) hHeld ?_
    rotate_left
    ·intro w' hSw
     go_simp
     (try with_reducible rfl)
    (try simp only [qx,qa,qb,qc])
    refine qm (rs := [5,10,11]) (by kernel_rfl) (by simp) ?_
    refine Qy rfl (fun K hK => ?_) <| Qy rfl (fun K hK => ?_) <| Qy rfl (fun K hK => ?_) <| qt
    ·go_simp
     refine (HF6.out _ (HBY.out.trans (ky.mono HBY.out.size))).mono ?_;rintro e Z1 ⟨cv',tv',gv',qa,qc,rfl,hO,hI,bi⟩;obtain ⟨a1,n1,c1,a2,n2,c2',a3,n3,c3,rfl,rfl,rfl⟩ := hO.shapes;go_wp2_with fail;refine hK.out _ _ (Grd.carry hS bi) (fun hHeld => ?_)
     clear hK K
     (try simp only [qx,qa,qb,qc])
     have ky1 := ky.trans (bi.mono ky.size);replace hS := Grd.carry hS bi;clear ky;have ky := ky1;clear ky1 bi;refine Qq (i := 6) (v := ?_) rfl (by kernel_rfl) (by kernel_rfl) (by kernel_rfl) (fun _ _ _ h => h) (Or.inl ⟨by rfl,?_⟩) hHeld ?_
     rotate_left
     ·intro w' hSw
      go_simp
      (try with_reducible rfl)
     (try simp only [qx,qa,qb,qc])
     refine Qq (i := 7) (v := ?_) rfl (by kernel_rfl) (by kernel_rfl) (by kernel_rfl) (fun _ _ _ h => h) (Or.inl ⟨by rfl,?_⟩) hHeld ?_
     rotate_left
     ·intro w' hSw
      go_simp
      (try with_reducible rfl)
     (try simp only [qx,qa,qb,qc])
     refine Qq (i := 8) (v := ?_) rfl (by kernel_rfl) (by kernel_rfl) (by kernel_rfl) (fun _ _ _ h => h) (Or.inl ⟨by rfl,?_⟩) hHeld ?_
     rotate_left
     ·intro w' hSw
      go_simp
      (try with_reducible rfl)
     (try simp only [qx,qa,qb,qc])
     refine Qq (i := 9) (v := ?_) rfl (by kernel_rfl) (by kernel_rfl) (by kernel_rfl) (fun _ _ _ h => h) (Or.inl ⟨by rfl,?_⟩) hHeld ?_
     rotate_left
     ·intro w' hSw
      go_simp
      (try with_reducible rfl)
     (try simp only [qx,qa,qb,qc])
     refine qm (rs := [10,11]) (by kernel_rfl) (by simp) ?_
     refine Qy rfl (fun K hK => ?_) <| Qy rfl (fun K hK => ?_) <| qt
     ·go_simp
      have bi : Below Z1.heap.size Z1 (Z1.alloc (.cells zA 32)) := (qr _ _).alloc (qd _) _;have hp := qf Z1 (.cells zA 32);have lp : Y.heap.size ≤ Z1.heap.size := ky.size;refine hK.out _ _ (Grd.carry hS bi) (fun hHeld => ?_)
      clear hK K
      (try simp only [qx,qa,qb,qc])
      replace hO := Qo.next hO bi;replace hI := Grd.ownsRow_below hI bi;have ky1 := ky.trans (bi.mono ky.size);replace hS := Grd.carry hS bi;clear ky;have ky := ky1;clear ky1 bi;generalize Z1.alloc (.cells zA 32) = Z2 at *;refine qm (rs := [11]) (by kernel_rfl) (by simp) ?_
      refine Qy rfl (fun K hK => ?_) <| qt
      ·go_simp
       have bi : Below Z2.heap.size Z2 (Z2.alloc (.cells zSq 35)) := (qr _ _).alloc (qd _) _;have hq := qf Z2 (.cells zSq 35);have lq : Y.heap.size ≤ Z2.heap.size := ky.size;refine hK.out _ _ (Grd.carry hS bi) (fun hHeld => ?_)
       clear hK K
       (try simp only [qx,qa,qb,qc])
       replace hp := Grd.carry hp bi;replace hO := Qo.next hO bi;replace hI := Grd.ownsRow_below hI bi;have ky1 := ky.trans (bi.mono ky.size);replace hS := Grd.carry hS bi;clear ky;have ky := ky1;clear ky1 bi;generalize Z2.alloc (.cells zSq 35) = Z3 at *;refine qm (rs := [12]) (by kernel_rfl) (by simp) ?_
       refine Qy rfl (fun K hK => ?_) <| qt
       ·have hL := qaf (A := (scT s2 a1 n1 c1 a2 n2 c2' a3 n3 c3)) (B := (stA st2 qa qc)) hp hq lp lq ky hO hI
        rw [if_pos (by rfl)]
        refine wp_store_row 32 (.tmp 10) (.tmp 49) rfl Z1.heap.size (scT s2 a1 n1 c1 a2 n2 c2' a3 n3 c3) rfl rfl _ _ hp (by kernel_rfl) rfl (Qm _ _ _ _ _ _ _ _ _ _) ?_
        refine hK.out _ _ ((qg _ _ _ _ (by omega)).trans hS) (fun hHeld => ?_)
        clear hK K
        (try simp only [qx,qa,qb,qc])
        refine qm (rs := [13]) (by kernel_rfl) (by simp) ?_
        refine Qy rfl (fun K hK => ?_) <| qt
        ·have hy1 := (qg Z3 Z1.heap.size w.heap.size (scT s2 a1 n1 c1 a2 n2 c2' a3 n3 c3) (by omega)).trans hS
         rw [if_pos (by rfl)]
         refine wp_store_row 35 (.tmp 11) (.tmp 50) rfl Z2.heap.size (stA st2 qa qc) rfl rfl _ _ hL.1 (by kernel_rfl) rfl (Yv _ _ _) ?_
         refine hK.out _ _ ((qg _ _ _ _ (by omega)).trans hy1) (fun hHeld => ?_)
         clear hK K
         (try simp only [qx,qa,qb,qc])
         refine Qq (i := 14) (v := ?_) rfl (by kernel_rfl) (by kernel_rfl) (by kernel_rfl) (fun _ _ _ h => h) (Or.inl ⟨by rfl,?_⟩) hHeld ?_
         rotate_left
         ·intro w' hSw
          go_simp
          (try with_reducible rfl)
         (try simp only [qx,qa,qb,qc])
         refine wpAnyH_done (by kernel_rfl) ?_ _
         refine NoPanic.normal ?_;go_wp2_with fail;go_meet;exact ⟨Z1.heap.size,Z2.heap.size,a1,n1,c1,a2,n2,c2',a3,n3,c3,qa,qc,rfl,rfl,rfl,hL.2⟩
     ·go_simp
      have bi : Below Z1.heap.size Z1 (Z1.alloc (.cells zSq 35)) := (qr _ _).alloc (qd _) _;have hq := qf Z1 (.cells zSq 35);have lq : Y.heap.size ≤ Z1.heap.size := ky.size;refine hK.out _ _ (Grd.carry hS bi) (fun hHeld => ?_)
      clear hK K
      (try simp only [qx,qa,qb,qc])
      replace hO := Qo.next hO bi;replace hI := Grd.ownsRow_below hI bi;have ky1 := ky.trans (bi.mono ky.size);replace hS := Grd.carry hS bi;clear ky;have ky := ky1;clear ky1 bi;generalize Z1.alloc (.cells zSq 35) = Z2 at *;refine qm (rs := [10]) (by kernel_rfl) (by simp) ?_
      refine Qy rfl (fun K hK => ?_) <| qt
      ·go_simp
       have bi : Below Z2.heap.size Z2 (Z2.alloc (.cells zA 32)) := (qr _ _).alloc (qd _) _;have hp := qf Z2 (.cells zA 32);have lp : Y.heap.size ≤ Z2.heap.size := ky.size;refine hK.out _ _ (Grd.carry hS bi) (fun hHeld => ?_)
       clear hK K
       (try simp only [qx,qa,qb,qc])
       replace hq := Grd.carry hq bi;replace hO := Qo.next hO bi;replace hI := Grd.ownsRow_below hI bi;have ky1 := ky.trans (bi.mono ky.size);replace hS := Grd.carry hS bi;clear ky;have ky := ky1;clear ky1 bi;generalize Z2.alloc (.cells zA 32) = Z3 at *;refine qm (rs := [12]) (by kernel_rfl) (by simp) ?_
       refine Qy rfl (fun K hK => ?_) <| qt
       ·have hL := qaf (A := (scT s2 a1 n1 c1 a2 n2 c2' a3 n3 c3)) (B := (stA st2 qa qc)) hp hq lp lq ky hO hI
        rw [if_pos (by rfl)]
        refine wp_store_row 32 (.tmp 10) (.tmp 49) rfl Z2.heap.size (scT s2 a1 n1 c1 a2 n2 c2' a3 n3 c3) rfl rfl _ _ hp (by kernel_rfl) rfl (Qm _ _ _ _ _ _ _ _ _ _) ?_
        refine hK.out _ _ ((qg _ _ _ _ (by omega)).trans hS) (fun hHeld => ?_)
        clear hK K
        (try simp only [qx,qa,qb,qc])
        refine qm (rs := [13]) (by kernel_rfl) (by simp) ?_
        refine Qy rfl (fun K hK => ?_) <| qt
        ·have hy1 := (qg Z3 Z2.heap.size w.heap.size (scT s2 a1 n1 c1 a2 n2 c2' a3 n3 c3) (by omega)).trans hS
         rw [if_pos (by rfl)]
         refine wp_store_row 35 (.tmp 11) (.tmp 50) rfl Z1.heap.size (stA st2 qa qc) rfl rfl _ _ hL.1 (by kernel_rfl) rfl (Yv _ _ _) ?_
         refine hK.out _ _ ((qg _ _ _ _ (by omega)).trans hy1) (fun hHeld => ?_)
         clear hK K
         (try simp only [qx,qa,qb,qc])
         refine Qq (i := 14) (v := ?_) rfl (by kernel_rfl) (by kernel_rfl) (by kernel_rfl) (fun _ _ _ h => h) (Or.inl ⟨by rfl,?_⟩) hHeld ?_
         rotate_left
         ·intro w' hSw
          go_simp
          (try with_reducible rfl)
         (try simp only [qx,qa,qb,qc])
         refine wpAnyH_done (by kernel_rfl) ?_ _
         refine NoPanic.normal ?_;go_wp2_with fail;go_meet;exact ⟨Z2.heap.size,Z1.heap.size,a1,n1,c1,a2,n2,c2',a3,n3,c3,qa,qc,rfl,rfl,rfl,hL.2⟩
    ·go_simp
     have bi : Below Z0.heap.size Z0 (Z0.alloc (.cells zA 32)) := (qr _ _).alloc (qd _) _;have hp := qf Z0 (.cells zA 32);have lp : Y.heap.size ≤ Z0.heap.size := ky.size;refine hK.out _ _ (Grd.carry hS bi) (fun hHeld => ?_)
     clear hK K
     (try simp only [qx,qa,qb,qc])
     have ky1 := ky.trans (bi.mono ky.size);replace hS := Grd.carry hS bi;clear ky;have ky := ky1;clear ky1 bi;generalize Z0.alloc (.cells zA 32) = Z1 at *;refine qm (rs := [5,11]) (by kernel_rfl) (by simp) ?_
     refine Qy rfl (fun K hK => ?_) <| Qy rfl (fun K hK => ?_) <| qt
     ·go_simp
      refine (HF6.out _ (HBY.out.trans (ky.mono HBY.out.size))).mono ?_;rintro e Z2 ⟨cv',tv',gv',qa,qc,rfl,hO,hI,bi⟩;obtain ⟨a1,n1,c1,a2,n2,c2',a3,n3,c3,rfl,rfl,rfl⟩ := hO.shapes;go_wp2_with fail;refine hK.out _ _ (Grd.carry hS bi) (fun hHeld => ?_)
      clear hK K
      (try simp only [qx,qa,qb,qc])
      replace hp := Grd.carry hp bi;have ky1 := ky.trans (bi.mono ky.size);replace hS := Grd.carry hS bi;clear ky;have ky := ky1;clear ky1 bi;refine Qq (i := 6) (v := ?_) rfl (by kernel_rfl) (by kernel_rfl) (by kernel_rfl) (fun _ _ _ h => h) (Or.inl ⟨by rfl,?_⟩) hHeld ?_
      rotate_left
      ·intro w' hSw
       go_simp
       (try with_reducible rfl)
      (try simp only [qx,qa,qb,qc])
      refine Qq (i := 7) (v := ?_) rfl (by kernel_rfl) (by kernel_rfl) (by kernel_rfl) (fun _ _ _ h => h) (Or.inl ⟨by rfl,?_⟩) hHeld ?_
      rotate_left
      ·intro w' hSw
       go_simp
       (try with_reducible rfl)
      (try simp only [qx,qa,qb,qc])
      refine Qq (i := 8) (v := ?_) rfl (by kernel_rfl) (by kernel_rfl) (by kernel_rfl) (fun _ _ _ h => h) (Or.inl ⟨by rfl,?_⟩) hHeld ?_
      rotate_left
      ·intro w' hSw
       go_simp
       (try with_reducible rfl)
      (try simp only [qx,qa,qb,qc])
      refine Qq (i := 9) (v := ?_) rfl (by kernel_rfl) (by kernel_rfl) (by kernel_rfl) (fun _ _ _ h => h) (Or.inl ⟨by rfl,?_⟩) hHeld ?_
      rotate_left
      ·intro w' hSw
       go_simp
       (try with_reducible rfl)
      (try simp only [qx,qa,qb,qc])
      refine qm (rs := [11]) (by kernel_rfl) (by simp) ?_
      refine Qy rfl (fun K hK => ?_) <| qt
      ·go_simp
       have bi : Below Z2.heap.size Z2 (Z2.alloc (.cells zSq 35)) := (qr _ _).alloc (qd _) _;have hq := qf Z2 (.cells zSq 35);have lq : Y.heap.size ≤ Z2.heap.size := ky.size;refine hK.out _ _ (Grd.carry hS bi) (fun hHeld => ?_)
       clear hK K
       (try simp only [qx,qa,qb,qc])
       replace hp := Grd.carry hp bi;replace hO := Qo.next hO bi;replace hI := Grd.ownsRow_below hI bi;have ky1 := ky.trans (bi.mono ky.size);replace hS := Grd.carry hS bi;clear ky;have ky := ky1;clear ky1 bi;generalize Z2.alloc (.cells zSq 35) = Z3 at *;refine qm (rs := [12]) (by kernel_rfl) (by simp) ?_
       refine Qy rfl (fun K hK => ?_) <| qt
       ·have hL := qaf (A := (scT s2 a1 n1 c1 a2 n2 c2' a3 n3 c3)) (B := (stA st2 qa qc)) hp hq lp lq ky hO hI
        rw [if_pos (by rfl)]
        refine wp_store_row 32 (.tmp 10) (.tmp 49) rfl Z0.heap.size (scT s2 a1 n1 c1 a2 n2 c2' a3 n3 c3) rfl rfl _ _ hp (by kernel_rfl) rfl (Qm _ _ _ _ _ _ _ _ _ _) ?_
        refine hK.out _ _ ((qg _ _ _ _ (by omega)).trans hS) (fun hHeld => ?_)
        clear hK K
        (try simp only [qx,qa,qb,qc])
        refine qm (rs := [13]) (by kernel_rfl) (by simp) ?_
        refine Qy rfl (fun K hK => ?_) <| qt
        ·have hy1 := (qg Z3 Z0.heap.size w.heap.size (scT s2 a1 n1 c1 a2 n2 c2' a3 n3 c3) (by omega)).trans hS
         rw [if_pos (by rfl)]
         refine wp_store_row 35 (.tmp 11) (.tmp 50) rfl Z2.heap.size (stA st2 qa qc) rfl rfl _ _ hL.1 (by kernel_rfl) rfl (Yv _ _ _) ?_
         refine hK.out _ _ ((qg _ _ _ _ (by omega)).trans hy1) (fun hHeld => ?_)
         clear hK K
         (try simp only [qx,qa,qb,qc])
         refine Qq (i := 14) (v := ?_) rfl (by kernel_rfl) (by kernel_rfl) (by kernel_rfl) (fun _ _ _ h => h) (Or.inl ⟨by rfl,?_⟩) hHeld ?_
         rotate_left
         ·intro w' hSw
          go_simp
          (try with_reducible rfl)
         (try simp only [qx,qa,qb,qc])
         refine wpAnyH_done (by kernel_rfl) ?_ _
         refine NoPanic.normal ?_;go_wp2_with fail;go_meet;exact ⟨Z0.heap.size,Z2.heap.size,a1,n1,c1,a2,n2,c2',a3,n3,c3,qa,qc,rfl,rfl,rfl,hL.2⟩
     ·go_simp
      have bi : Below Z1.heap.size Z1 (Z1.alloc (.cells zSq 35)) := (qr _ _).alloc (qd _) _;have hq := qf Z1 (.cells zSq 35);have lq : Y.heap.size ≤ Z1.heap.size := ky.size;refine hK.out _ _ (Grd.carry hS bi) (fun hHeld => ?_)
      clear hK K
      (try simp only [qx,qa,qb,qc])
      replace hp := Grd.carry hp bi;have ky1 := ky.trans (bi.mono ky.size);replace hS := Grd.carry hS bi;clear ky;have ky := ky1;clear ky1 bi;generalize Z1.alloc (.cells zSq 35) = Z2 at *;refine qm (rs := [5]) (by kernel_rfl) (by simp) ?_
      refine Qy rfl (fun K hK => ?_) <| qt
      ·go_simp
       refine (HF6.out _ (HBY.out.trans (ky.mono HBY.out.size))).mono ?_;rintro e Z3 ⟨cv',tv',gv',qa,qc,rfl,hO,hI,bi⟩;obtain ⟨a1,n1,c1,a2,n2,c2',a3,n3,c3,rfl,rfl,rfl⟩ := hO.shapes;go_wp2_with fail;refine hK.out _ _ (Grd.carry hS bi) (fun hHeld => ?_)
       clear hK K
       (try simp only [qx,qa,qb,qc])
       replace hp := Grd.carry hp bi;replace hq := Grd.carry hq bi;have ky1 := ky.trans (bi.mono ky.size);replace hS := Grd.carry hS bi;clear ky;have ky := ky1;clear ky1 bi;refine Qq (i := 6) (v := ?_) rfl (by kernel_rfl) (by kernel_rfl) (by kernel_rfl) (fun _ _ _ h => h) (Or.inl ⟨by rfl,?_⟩) hHeld ?_
       rotate_left
       ·intro w' hSw
        go_simp
        (try with_reducible rfl)
       (try simp only [qx,qa,qb,qc])
       refine Qq (i := 7) (v := ?_) rfl (by kernel_rfl) (by kernel_rfl) (by kernel_rfl) (fun _ _ _ h => h) (Or.inl ⟨by rfl,?_⟩) hHeld ?_
       rotate_left
       ·intro w' hSw
        go_simp
        (try with_reducible rfl)
       (try simp only [qx,qa,qb,qc])
       refine Qq (i := 8) (v := ?_) rfl (by kernel_rfl) (by kernel_rfl) (by kernel_rfl) (fun _ _ _ h => h) (Or.inl ⟨by rfl,?_⟩) hHeld ?_
       rotate_left
       ·intro w' hSw
        go_simp
        (try with_reducible rfl)
       (try simp only [qx,qa,qb,qc])
       refine Qq (i := 9) (v := ?_) rfl (by kernel_rfl) (by kernel_rfl) (by kernel_rfl) (fun _ _ _ h => h) (Or.inl ⟨by rfl,?_⟩) hHeld ?_
       rotate_left
       ·intro w' hSw
        go_simp
        (try with_reducible rfl)
       (try simp only [qx,qa,qb,qc])
       refine qm (rs := [12]) (by kernel_rfl) (by simp) ?_
       refine Qy rfl (fun K hK => ?_) <| qt
       ·have hL := qaf (A := (scT s2 a1 n1 c1 a2 n2 c2' a3 n3 c3)) (B := (stA st2 qa qc)) hp hq lp lq ky hO hI
        rw [if_pos (by rfl)]
        refine wp_store_row 32 (.tmp 10) (.tmp 49) rfl Z0.heap.size (scT s2 a1 n1 c1 a2 n2 c2' a3 n3 c3) rfl rfl _ _ hp (by kernel_rfl) rfl (Qm _ _ _ _ _ _ _ _ _ _) ?_
        refine hK.out _ _ ((qg _ _ _ _ (by omega)).trans hS) (fun hHeld => ?_)
        clear hK K
        (try simp only [qx,qa,qb,qc])
        refine qm (rs := [13]) (by kernel_rfl) (by simp) ?_
        refine Qy rfl (fun K hK => ?_) <| qt
        ·have hy1 := (qg Z3 Z0.heap.size w.heap.size (scT s2 a1 n1 c1 a2 n2 c2' a3 n3 c3) (by omega)).trans hS
         rw [if_pos (by rfl)]
         refine wp_store_row 35 (.tmp 11) (.tmp 50) rfl Z1.heap.size (stA st2 qa qc) rfl rfl _ _ hL.1 (by kernel_rfl) rfl (Yv _ _ _) ?_
         refine hK.out _ _ ((qg _ _ _ _ (by omega)).trans hy1) (fun hHeld => ?_)
         clear hK K
         (try simp only [qx,qa,qb,qc])
         refine Qq (i := 14) (v := ?_) rfl (by kernel_rfl) (by kernel_rfl) (by kernel_rfl) (fun _ _ _ h => h) (Or.inl ⟨by rfl,?_⟩) hHeld ?_
         rotate_left
         ·intro w' hSw
          go_simp
          (try with_reducible rfl)
         (try simp only [qx,qa,qb,qc])
         refine wpAnyH_done (by kernel_rfl) ?_ _
         refine NoPanic.normal ?_;go_wp2_with fail;go_meet;exact ⟨Z0.heap.size,Z1.heap.size,a1,n1,c1,a2,n2,c2',a3,n3,c3,qa,qc,rfl,rfl,rfl,hL.2⟩
    ·go_simp
     have bi : Below Z0.heap.size Z0 (Z0.alloc (.cells zSq 35)) := (qr _ _).alloc (qd _) _;have hq := qf Z0 (.cells zSq 35);have lq : Y.heap.size ≤ Z0.heap.size := ky.size;refine hK.out _ _ (Grd.carry hS bi) (fun hHeld => ?_)
     clear hK K
     (try simp only [qx,qa,qb,qc])
     have ky1 := ky.trans (bi.mono ky.size);replace hS := Grd.carry hS bi;clear ky;have ky := ky1;clear ky1 bi;generalize Z0.alloc (.cells zSq 35) = Z1 at *;refine qm (rs := [5,10]) (by kernel_rfl) (by simp) ?_
     refine Qy rfl (fun K hK => ?_) <| Qy rfl (fun K hK => ?_) <| qt
     ·go_simp
      refine (HF6.out _ (HBY.out.trans (ky.mono HBY.out.size))).mono ?_;rintro e Z2 ⟨cv',tv',gv',qa,qc,rfl,hO,hI,bi⟩;obtain ⟨a1,n1,c1,a2,n2,c2',a3,n3,c3,rfl,rfl,rfl⟩ := hO.shapes;go_wp2_with fail;refine hK.out _ _ (Grd.carry hS bi) (fun hHeld => ?_)
      clear hK K
      (try simp only [qx,qa,qb,qc])
      replace hq := Grd.carry hq bi;have ky1 := ky.trans (bi.mono ky.size);replace hS := Grd.carry hS bi;clear ky;have ky := ky1;clear ky1 bi;refine Qq (i := 6) (v := ?_) rfl (by kernel_rfl) (by kernel_rfl) (by kernel_rfl) (fun _ _ _ h => h) (Or.inl ⟨by rfl,?_⟩) hHeld ?_
      rotate_left
      ·intro w' hSw
       go_simp
       (try with_reducible rfl)
      (try simp only [qx,qa,qb,qc])
      refine Qq (i := 7) (v := ?_) rfl (by kernel_rfl) (by kernel_rfl) (by kernel_rfl) (fun _ _ _ h => h) (Or.inl ⟨by rfl,?_⟩) hHeld ?_
      rotate_left
      ·intro w' hSw
       go_simp
       (try with_reducible rfl)
      (try simp only [qx,qa,qb,qc])
      refine Qq (i := 8) (v := ?_) rfl (by kernel_rfl) (by kernel_rfl) (by kernel_rfl) (fun _ _ _ h => h) (Or.inl ⟨by rfl,?_⟩) hHeld ?_
      rotate_left
      ·intro w' hSw
       go_simp
       (try with_reducible rfl)
      (try simp only [qx,qa,qb,qc])
      refine Qq (i := 9) (v := ?_) rfl (by kernel_rfl) (by kernel_rfl) (by kernel_rfl) (fun _ _ _ h => h) (Or.inl ⟨by rfl,?_⟩) hHeld ?_
      rotate_left
      ·intro w' hSw
       go_simp
       (try with_reducible rfl)
      (try simp only [qx,qa,qb,qc])
      refine qm (rs := [10]) (by kernel_rfl) (by simp) ?_
      refine Qy rfl (fun K hK => ?_) <| qt
      ·go_simp
       have bi : Below Z2.heap.size Z2 (Z2.alloc (.cells zA 32)) := (qr _ _).alloc (qd _) _;have hp := qf Z2 (.cells zA 32);have lp : Y.heap.size ≤ Z2.heap.size := ky.size;refine hK.out _ _ (Grd.carry hS bi) (fun hHeld => ?_)
       clear hK K
       (try simp only [qx,qa,qb,qc])
       replace hq := Grd.carry hq bi;replace hO := Qo.next hO bi;replace hI := Grd.ownsRow_below hI bi;have ky1 := ky.trans (bi.mono ky.size);replace hS := Grd.carry hS bi;clear ky;have ky := ky1;clear ky1 bi;generalize Z2.alloc (.cells zA 32) = Z3 at *;refine qm (rs := [12]) (by kernel_rfl) (by simp) ?_
       refine Qy rfl (fun K hK => ?_) <| qt
       ·have hL := qaf (A := (scT s2 a1 n1 c1 a2 n2 c2' a3 n3 c3)) (B := (stA st2 qa qc)) hp hq lp lq ky hO hI
        rw [if_pos (by rfl)]
        refine wp_store_row 32 (.tmp 10) (.tmp 49) rfl Z2.heap.size (scT s2 a1 n1 c1 a2 n2 c2' a3 n3 c3) rfl rfl _ _ hp (by kernel_rfl) rfl (Qm _ _ _ _ _ _ _ _ _ _) ?_
        refine hK.out _ _ ((qg _ _ _ _ (by omega)).trans hS) (fun hHeld => ?_)
        clear hK K
        (try simp only [qx,qa,qb,qc])
        refine qm (rs := [13]) (by kernel_rfl) (by simp) ?_
        refine Qy rfl (fun K hK => ?_) <| qt
        ·have hy1 := (qg Z3 Z2.heap.size w.heap.size (scT s2 a1 n1 c1 a2 n2 c2' a3 n3 c3) (by omega)).trans hS
         rw [if_pos (by rfl)]
         refine wp_store_row 35 (.tmp 11) (.tmp 50) rfl Z0.heap.size (stA st2 qa qc) rfl rfl _ _ hL.1 (by kernel_rfl) rfl (Yv _ _ _) ?_
         refine hK.out _ _ ((qg _ _ _ _ (by omega)).trans hy1) (fun hHeld => ?_)
         clear hK K
         (try simp only [qx,qa,qb,qc])
         refine Qq (i := 14) (v := ?_) rfl (by kernel_rfl) (by kernel_rfl) (by kernel_rfl) (fun _ _ _ h => h) (Or.inl ⟨by rfl,?_⟩) hHeld ?_
         rotate_left
         ·intro w' hSw
          go_simp
          (try with_reducible rfl)
         (try simp only [qx,qa,qb,qc])
         refine wpAnyH_done (by kernel_rfl) ?_ _
         refine NoPanic.normal ?_;go_wp2_with fail;go_meet;exact ⟨Z2.heap.size,Z0.heap.size,a1,n1,c1,a2,n2,c2',a3,n3,c3,qa,qc,rfl,rfl,rfl,hL.2⟩
     ·go_simp
      have bi : Below Z1.heap.size Z1 (Z1.alloc (.cells zA 32)) := (qr _ _).alloc (qd _) _;have hp := qf Z1 (.cells zA 32);have lp : Y.heap.size ≤ Z1.heap.size := ky.size;refine hK.out _ _ (Grd.carry hS bi) (fun hHeld => ?_)
      clear hK K
      (try simp only [qx,qa,qb,qc])
      replace hq := Grd.carry hq bi;have ky1 := ky.trans (bi.mono ky.size);replace hS := Grd.carry hS bi;clear ky;have ky := ky1;clear ky1 bi;generalize Z1.alloc (.cells zA 32) = Z2 at *;refine qm (rs := [5]) (by kernel_rfl) (by simp) ?_
      refine Qy rfl (fun K hK => ?_) <| qt
      ·go_simp
       refine (HF6.out _ (HBY.out.trans (ky.mono HBY.out.size))).mono ?_;rintro e Z3 ⟨cv',tv',gv',qa,qc,rfl,hO,hI,bi⟩;obtain ⟨a1,n1,c1,a2,n2,c2',a3,n3,c3,rfl,rfl,rfl⟩ := hO.shapes;go_wp2_with fail;refine hK.out _ _ (Grd.carry hS bi) (fun hHeld => ?_)
       clear hK K
       (try simp only [qx,qa,qb,qc])
       replace hp := Grd.carry hp bi;replace hq := Grd.carry hq bi;have ky1 := ky.trans (bi.mono ky.size);replace hS := Grd.carry hS bi;clear ky;have ky := ky1;clear ky1 bi;refine Qq (i := 6) (v := ?_) rfl (by kernel_rfl) (by kernel_rfl) (by kernel_rfl) (fun _ _ _ h => h) (Or.inl ⟨by rfl,?_⟩) hHeld ?_
       rotate_left
       ·intro w' hSw
        go_simp
        (try with_reducible rfl)
       (try simp only [qx,qa,qb,qc])
       refine Qq (i := 7) (v := ?_) rfl (by kernel_rfl) (by kernel_rfl) (by kernel_rfl) (fun _ _ _ h => h) (Or.inl ⟨by rfl,?_⟩) hHeld ?_
       rotate_left
       ·intro w' hSw
        go_simp
        (try with_reducible rfl)
       (try simp only [qx,qa,qb,qc])
       refine Qq (i := 8) (v := ?_) rfl (by kernel_rfl) (by kernel_rfl) (by kernel_rfl) (fun _ _ _ h => h) (Or.inl ⟨by rfl,?_⟩) hHeld ?_
       rotate_left
       ·intro w' hSw
        go_simp
        (try with_reducible rfl)
       (try simp only [qx,qa,qb,qc])
       refine Qq (i := 9) (v := ?_) rfl (by kernel_rfl) (by kernel_rfl) (by kernel_rfl) (fun _ _ _ h => h) (Or.inl ⟨by rfl,?_⟩) hHeld ?_
       rotate_left
       ·intro w' hSw
        go_simp
        (try with_reducible rfl)
       (try simp only [qx,qa,qb,qc])
       refine qm (rs := [12]) (by kernel_rfl) (by simp) ?_
       refine Qy rfl (fun K hK => ?_) <| qt
       ·have hL := qaf (A := (scT s2 a1 n1 c1 a2 n2 c2' a3 n3 c3)) (B := (stA st2 qa qc)) hp hq lp lq ky hO hI
        rw [if_pos (by rfl)]
        refine wp_store_row 32 (.tmp 10) (.tmp 49) rfl Z1.heap.size (scT s2 a1 n1 c1 a2 n2 c2' a3 n3 c3) rfl rfl _ _ hp (by kernel_rfl) rfl (Qm _ _ _ _ _ _ _ _ _ _) ?_
        refine hK.out _ _ ((qg _ _ _ _ (by omega)).trans hS) (fun hHeld => ?_)
        clear hK K
        (try simp only [qx,qa,qb,qc])
        refine qm (rs := [13]) (by kernel_rfl) (by simp) ?_
        refine Qy rfl (fun K hK => ?_) <| qt
        ·have hy1 := (qg Z3 Z1.heap.size w.heap.size (scT s2 a1 n1 c1 a2 n2 c2' a3 n3 c3) (by omega)).trans hS
         rw [if_pos (by rfl)]
         refine wp_store_row 35 (.tmp 11) (.tmp 50) rfl Z0.heap.size (stA st2 qa qc) rfl rfl _ _ hL.1 (by kernel_rfl) rfl (Yv _ _ _) ?_
         refine hK.out _ _ ((qg _ _ _ _ (by omega)).trans hy1) (fun hHeld => ?_)
         clear hK K
         (try simp only [qx,qa,qb,qc])
         refine Qq (i := 14) (v := ?_) rfl (by kernel_rfl) (by kernel_rfl) (by kernel_rfl) (fun _ _ _ h => h) (Or.inl ⟨by rfl,?_⟩) hHeld ?_
         rotate_left
         ·intro w' hSw
          go_simp
          (try with_reducible rfl)
         (try simp only [qx,qa,qb,qc])
         refine wpAnyH_done (by kernel_rfl) ?_ _
         refine NoPanic.normal ?_;go_wp2_with fail;go_meet;exact ⟨Z1.heap.size,Z0.heap.size,a1,n1,c1,a2,n2,c2',a3,n3,c3,qa,qc,rfl,rfl,rfl,hL.2⟩
   case rest =>
    obtain ⟨p2,q2,d12,m12,e12,d22,m22,e22,d32,m32,e32,qa2,qc2,rfl,rfl,rfl,g1,g2,g3,g4,g5⟩ := hcut;generalize hwc : wc = Y2 at *;clear hwc;have HBY2 : Hid (Below w.heap.size w Y2) := HBY.out.trans (g5.mono HBY.out.size);have HV2 : Hid (Zh Y2 s2 _ _ _) := g3;have HI2 : Hid (Qv Y2 _ st2.ps) := g4;have HNY1 : Hid (Y2.heap[V1.heap.size]? = _) := Grd.carry HMY1.out g5;have HNY2 : Hid (Y2.heap[V1.heap.size + 1]? = _) := Grd.carry HMY2.out g5;have HWY : Hid (Zh Y2 s1 _ _ _) := HVY.out.next g5;have HJY : Hid (Qv Y2 _ st1.ps) := HIY.out.next g5;have hlp := Qc g1;have hlq := Qc g2;have HG1 : Hid _ := g1;have HG2 : Hid _ := g2;clear g1 g2 g3 g4 g5 HMY1 HMY2 HVY HIY HXY HF6 hlw HBY;go_upto_region 7 with fail
    go_cut [13,14,15] from 52 to 61 (fun s13 s14 s15 wx => ∃ (p q : Nat) (a1 : Option Addr) (n1 c1 : Nat) (a2 : Option Addr) (n2 c2' : Nat) (a3 : Option Addr) (n3 c3 : Nat) (qa : Option Addr) (qc : Nat),s13 = .pointer (some ⟨p,0,none⟩) ∧ s14 = .pointer (some ⟨q,0,none⟩) ∧ s15 = .int .i64 0 ∧ Got2 Y2 wx p q s1 st1 a1 n1 c1 a2 n2 c2' a3 n3 c3 qa qc)
    case first =>
     refine wp_region_noPanic ?_;have ky : Below Y2.heap.size Y2 Y2.drew := (qr _ _).drew;have hS : Y2.drew.heap[p2]? = some (.cells (scT s2 d12 m12 e12 d22 m22 e22 d32 m32 e32) 32 (0,0)) ∧ Y2.drew.heap[q2]? = some (.cells (stA st2 qa2 qc2) 35 (0,0)) := ⟨HG1.out,HG2.out⟩;refine wp_region_held_drew (S := fun w' => w'.heap[p2]? = some (.cells (scT s2 d12 m12 e12 d22 m22 e22 d32 m32 e32) 32 (0,0)) ∧ w'.heap[q2]? = some (.cells (stA st2 qa2 qc2) 35 (0,0))) (by kernel_rfl) hS (fun hHeld => ?_)
     generalize Y2.drew = Z0 at *;refine Qq (i := 0) (v := .agg (scT s2 d12 m12 e12 d22 m22 e22 d32 m32 e32)) rfl (by kernel_rfl) (by kernel_rfl) (by kernel_rfl) (fun _ _ _ h => h) (Or.inl ⟨by rfl,?_⟩) hHeld ?_
     ·intro w' hSw
      refine (Xp _ _ _ _ _ _ _ w' ?_).trans ?_
      ·exact (Qs hSw.1).1
      ·exact congrArg (fun z => Result.ok (Next.value (.agg z)) w') (Qs hSw.1).2
     (try simp only [qx,qa,qb,qc])
     refine Qq (i := 1) (v := .agg (stA st2 qa2 qc2)) rfl (by kernel_rfl) (by kernel_rfl) (by kernel_rfl) (fun _ _ _ h => h) (Or.inl ⟨by rfl,?_⟩) hHeld ?_
     ·intro w' hSw
      obtain ⟨g0,g1,g2,g3,g4,g5,g6,gf⟩ := Prs.Z8 (show w'.heap[q2]? = some (.cells #[_,_,_,_,_,_,_] _ (0,0)) from hSw.2)
      unfold stA;go_simp
      (try with_reducible rfl)
     (try simp only [qx,qa,qb,qc])
     refine Qq (i := 2) (v := ?_) rfl (by kernel_rfl) (by kernel_rfl) (by kernel_rfl) (fun _ _ _ h => h) (Or.inl ⟨by rfl,?_⟩) hHeld ?_
     rotate_left
     ·intro w' hSw
      go_simp
      (try with_reducible rfl)
     (try simp only [qx,qa,qb,qc])
     refine Qq (i := 3) (v := ?_) rfl (by kernel_rfl) (by kernel_rfl) (by kernel_rfl) (fun _ _ _ h => h) (Or.inl ⟨by rfl,?_⟩) hHeld ?_
     rotate_left
     ·intro w' hSw
      go_simp
      (try with_reducible rfl)
     (try simp only [qx,qa,qb,qc])
     refine Qq (i := 4) (v := ?_) rfl (by kernel_rfl) (by kernel_rfl) (by kernel_rfl) (fun _ _ _ h => h) (Or.inl ⟨by rfl,?_⟩) hHeld ?_
     rotate_left
     ·intro w' hSw
      go_simp
      (try with_reducible rfl)
     (try simp only [qx,qa,qb,qc])
     refine qm (rs := [5,10,11]) (by kernel_rfl) (by simp) ?_
     refine Qy rfl (fun K hK => ?_) <| Qy rfl (fun K hK => ?_) <| Qy rfl (fun K hK => ?_) <| qt
     ·go_simp
      refine (HF7.out _ _ _ _ _ _ (HBY2.out.trans (ky.mono HBY2.out.size)) (HV2.out.next ky) (HI2.out.next ky)).mono ?_;rintro e Z1 ⟨cv',tv',gv',qa,qc,rfl,hO,hI,bi⟩;obtain ⟨a1,n1,c1,a2,n2,c2',a3,n3,c3,rfl,rfl,rfl⟩ := hO.shapes;go_wp2_with fail;refine hK.out _ _ ⟨Grd.carry hS.1 bi,Grd.carry hS.2 bi⟩ (fun hHeld => ?_)
      clear hK K
      (try simp only [qx,qa,qb,qc])
      have ky1 := ky.trans (bi.mono ky.size);replace hS := And.intro (Grd.carry hS.1 bi) (Grd.carry hS.2 bi);clear ky;have ky := ky1;clear ky1 bi;refine Qq (i := 6) (v := ?_) rfl (by kernel_rfl) (by kernel_rfl) (by kernel_rfl) (fun _ _ _ h => h) (Or.inl ⟨by rfl,?_⟩) hHeld ?_
      rotate_left
      ·intro w' hSw
       go_simp
       (try with_reducible rfl)
      (try simp only [qx,qa,qb,qc])
      refine Qq (i := 7) (v := ?_) rfl (by kernel_rfl) (by kernel_rfl) (by kernel_rfl) (fun _ _ _ h => h) (Or.inl ⟨by rfl,?_⟩) hHeld ?_
      rotate_left
      ·intro w' hSw
       go_simp
       (try with_reducible rfl)
      (try simp only [qx,qa,qb,qc])
      refine Qq (i := 8) (v := ?_) rfl (by kernel_rfl) (by kernel_rfl) (by kernel_rfl) (fun _ _ _ h => h) (Or.inl ⟨by rfl,?_⟩) hHeld ?_
      rotate_left
      ·intro w' hSw
       go_simp
       (try with_reducible rfl)
      (try simp only [qx,qa,qb,qc])
      refine Qq (i := 9) (v := ?_) rfl (by kernel_rfl) (by kernel_rfl) (by kernel_rfl) (fun _ _ _ h => h) (Or.inl ⟨by rfl,?_⟩) hHeld ?_
      rotate_left
      ·intro w' hSw
       go_simp
       (try with_reducible rfl)
      (try simp only [qx,qa,qb,qc])
      refine qm (rs := [10,11]) (by kernel_rfl) (by simp) ?_
      refine Qy rfl (fun K hK => ?_) <| Qy rfl (fun K hK => ?_) <| qt
      ·go_simp
       have bi : Below Z1.heap.size Z1 (Z1.alloc (.cells zA 32)) := (qr _ _).alloc (qd _) _;have hp := qf Z1 (.cells zA 32);have lp : Y2.heap.size ≤ Z1.heap.size := ky.size;refine hK.out _ _ ⟨Grd.carry hS.1 bi,Grd.carry hS.2 bi⟩ (fun hHeld => ?_)
       clear hK K
       (try simp only [qx,qa,qb,qc])
       replace hO := Qo.next hO bi;replace hI := Grd.ownsRow_below hI bi;have ky1 := ky.trans (bi.mono ky.size);replace hS := And.intro (Grd.carry hS.1 bi) (Grd.carry hS.2 bi);clear ky;have ky := ky1;clear ky1 bi;generalize Z1.alloc (.cells zA 32) = Z2 at *;refine qm (rs := [11]) (by kernel_rfl) (by simp) ?_
       refine Qy rfl (fun K hK => ?_) <| qt
       ·go_simp
        have bi : Below Z2.heap.size Z2 (Z2.alloc (.cells zSq 35)) := (qr _ _).alloc (qd _) _;have hq := qf Z2 (.cells zSq 35);have lq : Y2.heap.size ≤ Z2.heap.size := ky.size;refine hK.out _ _ ⟨Grd.carry hS.1 bi,Grd.carry hS.2 bi⟩ (fun hHeld => ?_)
        clear hK K
        (try simp only [qx,qa,qb,qc])
        replace hp := Grd.carry hp bi;replace hO := Qo.next hO bi;replace hI := Grd.ownsRow_below hI bi;have ky1 := ky.trans (bi.mono ky.size);replace hS := And.intro (Grd.carry hS.1 bi) (Grd.carry hS.2 bi);clear ky;have ky := ky1;clear ky1 bi;generalize Z2.alloc (.cells zSq 35) = Z3 at *;refine qm (rs := [12]) (by kernel_rfl) (by simp) ?_
        refine Qy rfl (fun K hK => ?_) <| qt
        ·have hL := qaf (A := (scT s1 a1 n1 c1 a2 n2 c2' a3 n3 c3)) (B := (stA st1 qa qc)) hp hq lp lq ky hO hI
         rw [if_pos (by rfl)]
         refine wp_store_row 32 (.tmp 13) (.tmp 59) rfl Z1.heap.size (scT s1 a1 n1 c1 a2 n2 c2' a3 n3 c3) rfl rfl _ _ hp (by kernel_rfl) rfl (Qm _ _ _ _ _ _ _ _ _ _) ?_
         refine hK.out _ _ ⟨(qg _ _ _ _ (by omega)).trans hS.1,(qg _ _ _ _ (by omega)).trans hS.2⟩ (fun hHeld => ?_)
         clear hK K
         (try simp only [qx,qa,qb,qc])
         refine qm (rs := [13]) (by kernel_rfl) (by simp) ?_
         refine Qy rfl (fun K hK => ?_) <| qt
         ·have hy1 := (qg Z3 Z1.heap.size p2 (scT s1 a1 n1 c1 a2 n2 c2' a3 n3 c3) (by omega)).trans hS.1
          have hy2 := (qg Z3 Z1.heap.size q2 (scT s1 a1 n1 c1 a2 n2 c2' a3 n3 c3) (by omega)).trans hS.2
          rw [if_pos (by rfl)]
          refine wp_store_row 35 (.tmp 14) (.tmp 60) rfl Z2.heap.size (stA st1 qa qc) rfl rfl _ _ hL.1 (by kernel_rfl) rfl (Yv _ _ _) ?_
          refine hK.out _ _ ⟨(qg _ _ _ _ (by omega)).trans hy1,(qg _ _ _ _ (by omega)).trans hy2⟩ (fun hHeld => ?_)
          clear hK K
          (try simp only [qx,qa,qb,qc])
          refine Qq (i := 14) (v := ?_) rfl (by kernel_rfl) (by kernel_rfl) (by kernel_rfl) (fun _ _ _ h => h) (Or.inl ⟨by rfl,?_⟩) hHeld ?_
          rotate_left
          ·intro w' hSw
           go_simp
           (try with_reducible rfl)
          (try simp only [qx,qa,qb,qc])
          refine wpAnyH_done (by kernel_rfl) ?_ _
          refine NoPanic.normal ?_;go_wp2_with fail;go_meet;exact ⟨Z1.heap.size,Z2.heap.size,a1,n1,c1,a2,n2,c2',a3,n3,c3,qa,qc,rfl,rfl,rfl,hL.2⟩
      ·go_simp
       have bi : Below Z1.heap.size Z1 (Z1.alloc (.cells zSq 35)) := (qr _ _).alloc (qd _) _;have hq := qf Z1 (.cells zSq 35);have lq : Y2.heap.size ≤ Z1.heap.size := ky.size;refine hK.out _ _ ⟨Grd.carry hS.1 bi,Grd.carry hS.2 bi⟩ (fun hHeld => ?_)
       clear hK K
       (try simp only [qx,qa,qb,qc])
       replace hO := Qo.next hO bi;replace hI := Grd.ownsRow_below hI bi;have ky1 := ky.trans (bi.mono ky.size);replace hS := And.intro (Grd.carry hS.1 bi) (Grd.carry hS.2 bi);clear ky;have ky := ky1;clear ky1 bi;generalize Z1.alloc (.cells zSq 35) = Z2 at *;refine qm (rs := [10]) (by kernel_rfl) (by simp) ?_
       refine Qy rfl (fun K hK => ?_) <| qt
       ·go_simp
        have bi : Below Z2.heap.size Z2 (Z2.alloc (.cells zA 32)) := (qr _ _).alloc (qd _) _;have hp := qf Z2 (.cells zA 32);have lp : Y2.heap.size ≤ Z2.heap.size := ky.size;refine hK.out _ _ ⟨Grd.carry hS.1 bi,Grd.carry hS.2 bi⟩ (fun hHeld => ?_)
        clear hK K
        (try simp only [qx,qa,qb,qc])
        replace hq := Grd.carry hq bi;replace hO := Qo.next hO bi;replace hI := Grd.ownsRow_below hI bi;have ky1 := ky.trans (bi.mono ky.size);replace hS := And.intro (Grd.carry hS.1 bi) (Grd.carry hS.2 bi);clear ky;have ky := ky1;clear ky1 bi;generalize Z2.alloc (.cells zA 32) = Z3 at *;refine qm (rs := [12]) (by kernel_rfl) (by simp) ?_
        refine Qy rfl (fun K hK => ?_) <| qt
        ·have hL := qaf (A := (scT s1 a1 n1 c1 a2 n2 c2' a3 n3 c3)) (B := (stA st1 qa qc)) hp hq lp lq ky hO hI
         rw [if_pos (by rfl)]
         refine wp_store_row 32 (.tmp 13) (.tmp 59) rfl Z2.heap.size (scT s1 a1 n1 c1 a2 n2 c2' a3 n3 c3) rfl rfl _ _ hp (by kernel_rfl) rfl (Qm _ _ _ _ _ _ _ _ _ _) ?_
         refine hK.out _ _ ⟨(qg _ _ _ _ (by omega)).trans hS.1,(qg _ _ _ _ (by omega)).trans hS.2⟩ (fun hHeld => ?_)
         clear hK K
         (try simp only [qx,qa,qb,qc])
         refine qm (rs := [13]) (by kernel_rfl) (by simp) ?_
         refine Qy rfl (fun K hK => ?_) <| qt
         ·have hy1 := (qg Z3 Z2.heap.size p2 (scT s1 a1 n1 c1 a2 n2 c2' a3 n3 c3) (by omega)).trans hS.1
          have hy2 := (qg Z3 Z2.heap.size q2 (scT s1 a1 n1 c1 a2 n2 c2' a3 n3 c3) (by omega)).trans hS.2
          rw [if_pos (by rfl)]
          refine wp_store_row 35 (.tmp 14) (.tmp 60) rfl Z1.heap.size (stA st1 qa qc) rfl rfl _ _ hL.1 (by kernel_rfl) rfl (Yv _ _ _) ?_
          refine hK.out _ _ ⟨(qg _ _ _ _ (by omega)).trans hy1,(qg _ _ _ _ (by omega)).trans hy2⟩ (fun hHeld => ?_)
          clear hK K
          (try simp only [qx,qa,qb,qc])
          refine Qq (i := 14) (v := ?_) rfl (by kernel_rfl) (by kernel_rfl) (by kernel_rfl) (fun _ _ _ h => h) (Or.inl ⟨by rfl,?_⟩) hHeld ?_
          rotate_left
          ·intro w' hSw
           go_simp
           (try with_reducible rfl)
          (try simp only [qx,qa,qb,qc])
          refine wpAnyH_done (by kernel_rfl) ?_ _
          refine NoPanic.normal ?_;go_wp2_with fail;go_meet;exact ⟨Z2.heap.size,Z1.heap.size,a1,n1,c1,a2,n2,c2',a3,n3,c3,qa,qc,rfl,rfl,rfl,hL.2⟩
     ·go_simp
      have bi : Below Z0.heap.size Z0 (Z0.alloc (.cells zA 32)) := (qr _ _).alloc (qd _) _;have hp := qf Z0 (.cells zA 32);have lp : Y2.heap.size ≤ Z0.heap.size := ky.size;refine hK.out _ _ ⟨Grd.carry hS.1 bi,Grd.carry hS.2 bi⟩ (fun hHeld => ?_)
      clear hK K
      (try simp only [qx,qa,qb,qc])
      have ky1 := ky.trans (bi.mono ky.size);replace hS := And.intro (Grd.carry hS.1 bi) (Grd.carry hS.2 bi);clear ky;have ky := ky1;clear ky1 bi;generalize Z0.alloc (.cells zA 32) = Z1 at *;refine qm (rs := [5,11]) (by kernel_rfl) (by simp) ?_
      refine Qy rfl (fun K hK => ?_) <| Qy rfl (fun K hK => ?_) <| qt
      ·go_simp
       refine (HF7.out _ _ _ _ _ _ (HBY2.out.trans (ky.mono HBY2.out.size)) (HV2.out.next ky) (HI2.out.next ky)).mono ?_;rintro e Z2 ⟨cv',tv',gv',qa,qc,rfl,hO,hI,bi⟩;obtain ⟨a1,n1,c1,a2,n2,c2',a3,n3,c3,rfl,rfl,rfl⟩ := hO.shapes;go_wp2_with fail;refine hK.out _ _ ⟨Grd.carry hS.1 bi,Grd.carry hS.2 bi⟩ (fun hHeld => ?_)
       clear hK K
       (try simp only [qx,qa,qb,qc])
       replace hp := Grd.carry hp bi;have ky1 := ky.trans (bi.mono ky.size);replace hS := And.intro (Grd.carry hS.1 bi) (Grd.carry hS.2 bi);clear ky;have ky := ky1;clear ky1 bi;refine Qq (i := 6) (v := ?_) rfl (by kernel_rfl) (by kernel_rfl) (by kernel_rfl) (fun _ _ _ h => h) (Or.inl ⟨by rfl,?_⟩) hHeld ?_
       rotate_left
       ·intro w' hSw
        go_simp
        (try with_reducible rfl)
       (try simp only [qx,qa,qb,qc])
       refine Qq (i := 7) (v := ?_) rfl (by kernel_rfl) (by kernel_rfl) (by kernel_rfl) (fun _ _ _ h => h) (Or.inl ⟨by rfl,?_⟩) hHeld ?_
       rotate_left
       ·intro w' hSw
        go_simp
        (try with_reducible rfl)
       (try simp only [qx,qa,qb,qc])
       refine Qq (i := 8) (v := ?_) rfl (by kernel_rfl) (by kernel_rfl) (by kernel_rfl) (fun _ _ _ h => h) (Or.inl ⟨by rfl,?_⟩) hHeld ?_
       rotate_left
       ·intro w' hSw
        go_simp
        (try with_reducible rfl)
       (try simp only [qx,qa,qb,qc])
       refine Qq (i := 9) (v := ?_) rfl (by kernel_rfl) (by kernel_rfl) (by kernel_rfl) (fun _ _ _ h => h) (Or.inl ⟨by rfl,?_⟩) hHeld ?_
       rotate_left
       ·intro w' hSw
        go_simp
        (try with_reducible rfl)
       (try simp only [qx,qa,qb,qc])
       refine qm (rs := [11]) (by kernel_rfl) (by simp) ?_
       refine Qy rfl (fun K hK => ?_) <| qt
       ·go_simp
        have bi : Below Z2.heap.size Z2 (Z2.alloc (.cells zSq 35)) := (qr _ _).alloc (qd _) _;have hq := qf Z2 (.cells zSq 35);have lq : Y2.heap.size ≤ Z2.heap.size := ky.size;refine hK.out _ _ ⟨Grd.carry hS.1 bi,Grd.carry hS.2 bi⟩ (fun hHeld => ?_)
        clear hK K
        (try simp only [qx,qa,qb,qc])
        replace hp := Grd.carry hp bi;replace hO := Qo.next hO bi;replace hI := Grd.ownsRow_below hI bi;have ky1 := ky.trans (bi.mono ky.size);replace hS := And.intro (Grd.carry hS.1 bi) (Grd.carry hS.2 bi);clear ky;have ky := ky1;clear ky1 bi;generalize Z2.alloc (.cells zSq 35) = Z3 at *;refine qm (rs := [12]) (by kernel_rfl) (by simp) ?_
        refine Qy rfl (fun K hK => ?_) <| qt
        ·have hL := qaf (A := (scT s1 a1 n1 c1 a2 n2 c2' a3 n3 c3)) (B := (stA st1 qa qc)) hp hq lp lq ky hO hI
         rw [if_pos (by rfl)]
         refine wp_store_row 32 (.tmp 13) (.tmp 59) rfl Z0.heap.size (scT s1 a1 n1 c1 a2 n2 c2' a3 n3 c3) rfl rfl _ _ hp (by kernel_rfl) rfl (Qm _ _ _ _ _ _ _ _ _ _) ?_
         refine hK.out _ _ ⟨(qg _ _ _ _ (by omega)).trans hS.1,(qg _ _ _ _ (by omega)).trans hS.2⟩ (fun hHeld => ?_)
         clear hK K
         (try simp only [qx,qa,qb,qc])
         refine qm (rs := [13]) (by kernel_rfl) (by simp) ?_
         refine Qy rfl (fun K hK => ?_) <| qt
         ·have hy1 := (qg Z3 Z0.heap.size p2 (scT s1 a1 n1 c1 a2 n2 c2' a3 n3 c3) (by omega)).trans hS.1
          have hy2 := (qg Z3 Z0.heap.size q2 (scT s1 a1 n1 c1 a2 n2 c2' a3 n3 c3) (by omega)).trans hS.2
          rw [if_pos (by rfl)]
          refine wp_store_row 35 (.tmp 14) (.tmp 60) rfl Z2.heap.size (stA st1 qa qc) rfl rfl _ _ hL.1 (by kernel_rfl) rfl (Yv _ _ _) ?_
          refine hK.out _ _ ⟨(qg _ _ _ _ (by omega)).trans hy1,(qg _ _ _ _ (by omega)).trans hy2⟩ (fun hHeld => ?_)
          clear hK K
          (try simp only [qx,qa,qb,qc])
          refine Qq (i := 14) (v := ?_) rfl (by kernel_rfl) (by kernel_rfl) (by kernel_rfl) (fun _ _ _ h => h) (Or.inl ⟨by rfl,?_⟩) hHeld ?_
          rotate_left
          ·intro w' hSw
           go_simp
           (try with_reducible rfl)
          (try simp only [qx,qa,qb,qc])
          refine wpAnyH_done (by kernel_rfl) ?_ _
          refine NoPanic.normal ?_;go_wp2_with fail;go_meet;exact ⟨Z0.heap.size,Z2.heap.size,a1,n1,c1,a2,n2,c2',a3,n3,c3,qa,qc,rfl,rfl,rfl,hL.2⟩
      ·go_simp
       have bi : Below Z1.heap.size Z1 (Z1.alloc (.cells zSq 35)) := (qr _ _).alloc (qd _) _;have hq := qf Z1 (.cells zSq 35);have lq : Y2.heap.size ≤ Z1.heap.size := ky.size;refine hK.out _ _ ⟨Grd.carry hS.1 bi,Grd.carry hS.2 bi⟩ (fun hHeld => ?_)
       clear hK K
       (try simp only [qx,qa,qb,qc])
       replace hp := Grd.carry hp bi;have ky1 := ky.trans (bi.mono ky.size);replace hS := And.intro (Grd.carry hS.1 bi) (Grd.carry hS.2 bi);clear ky;have ky := ky1;clear ky1 bi;generalize Z1.alloc (.cells zSq 35) = Z2 at *;refine qm (rs := [5]) (by kernel_rfl) (by simp) ?_
       refine Qy rfl (fun K hK => ?_) <| qt
       ·go_simp
        refine (HF7.out _ _ _ _ _ _ (HBY2.out.trans (ky.mono HBY2.out.size)) (HV2.out.next ky) (HI2.out.next ky)).mono ?_;rintro e Z3 ⟨cv',tv',gv',qa,qc,rfl,hO,hI,bi⟩;obtain ⟨a1,n1,c1,a2,n2,c2',a3,n3,c3,rfl,rfl,rfl⟩ := hO.shapes;go_wp2_with fail;refine hK.out _ _ ⟨Grd.carry hS.1 bi,Grd.carry hS.2 bi⟩ (fun hHeld => ?_)
        clear hK K
        (try simp only [qx,qa,qb,qc])
        replace hp := Grd.carry hp bi;replace hq := Grd.carry hq bi;have ky1 := ky.trans (bi.mono ky.size);replace hS := And.intro (Grd.carry hS.1 bi) (Grd.carry hS.2 bi);clear ky;have ky := ky1;clear ky1 bi;refine Qq (i := 6) (v := ?_) rfl (by kernel_rfl) (by kernel_rfl) (by kernel_rfl) (fun _ _ _ h => h) (Or.inl ⟨by rfl,?_⟩) hHeld ?_
        rotate_left
        ·intro w' hSw
         go_simp
         (try with_reducible rfl)
        (try simp only [qx,qa,qb,qc])
        refine Qq (i := 7) (v := ?_) rfl (by kernel_rfl) (by kernel_rfl) (by kernel_rfl) (fun _ _ _ h => h) (Or.inl ⟨by rfl,?_⟩) hHeld ?_
        rotate_left
        ·intro w' hSw
         go_simp
         (try with_reducible rfl)
        (try simp only [qx,qa,qb,qc])
        refine Qq (i := 8) (v := ?_) rfl (by kernel_rfl) (by kernel_rfl) (by kernel_rfl) (fun _ _ _ h => h) (Or.inl ⟨by rfl,?_⟩) hHeld ?_
        rotate_left
        ·intro w' hSw
         go_simp
         (try with_reducible rfl)
        (try simp only [qx,qa,qb,qc])
        refine Qq (i := 9) (v := ?_) rfl (by kernel_rfl) (by kernel_rfl) (by kernel_rfl) (fun _ _ _ h => h) (Or.inl ⟨by rfl,?_⟩) hHeld ?_
        rotate_left
        ·intro w' hSw
         go_simp
         (try with_reducible rfl)
        (try simp only [qx,qa,qb,qc])
        refine qm (rs := [12]) (by kernel_rfl) (by simp) ?_
        refine Qy rfl (fun K hK => ?_) <| qt
        ·have hL := qaf (A := (scT s1 a1 n1 c1 a2 n2 c2' a3 n3 c3)) (B := (stA st1 qa qc)) hp hq lp lq ky hO hI
         rw [if_pos (by rfl)]
         refine wp_store_row 32 (.tmp 13) (.tmp 59) rfl Z0.heap.size (scT s1 a1 n1 c1 a2 n2 c2' a3 n3 c3) rfl rfl _ _ hp (by kernel_rfl) rfl (Qm _ _ _ _ _ _ _ _ _ _) ?_
         refine hK.out _ _ ⟨(qg _ _ _ _ (by omega)).trans hS.1,(qg _ _ _ _ (by omega)).trans hS.2⟩ (fun hHeld => ?_)
         clear hK K
         (try simp only [qx,qa,qb,qc])
         refine qm (rs := [13]) (by kernel_rfl) (by simp) ?_
         refine Qy rfl (fun K hK => ?_) <| qt
         ·have hy1 := (qg Z3 Z0.heap.size p2 (scT s1 a1 n1 c1 a2 n2 c2' a3 n3 c3) (by omega)).trans hS.1
          have hy2 := (qg Z3 Z0.heap.size q2 (scT s1 a1 n1 c1 a2 n2 c2' a3 n3 c3) (by omega)).trans hS.2
          rw [if_pos (by rfl)]
          refine wp_store_row 35 (.tmp 14) (.tmp 60) rfl Z1.heap.size (stA st1 qa qc) rfl rfl _ _ hL.1 (by kernel_rfl) rfl (Yv _ _ _) ?_
          refine hK.out _ _ ⟨(qg _ _ _ _ (by omega)).trans hy1,(qg _ _ _ _ (by omega)).trans hy2⟩ (fun hHeld => ?_)
          clear hK K
          (try simp only [qx,qa,qb,qc])
          refine Qq (i := 14) (v := ?_) rfl (by kernel_rfl) (by kernel_rfl) (by kernel_rfl) (fun _ _ _ h => h) (Or.inl ⟨by rfl,?_⟩) hHeld ?_
          rotate_left
          ·intro w' hSw
           go_simp
           (try with_reducible rfl)
          (try simp only [qx,qa,qb,qc])
          refine wpAnyH_done (by kernel_rfl) ?_ _
          refine NoPanic.normal ?_;go_wp2_with fail;go_meet;exact ⟨Z0.heap.size,Z1.heap.size,a1,n1,c1,a2,n2,c2',a3,n3,c3,qa,qc,rfl,rfl,rfl,hL.2⟩
     ·go_simp
      have bi : Below Z0.heap.size Z0 (Z0.alloc (.cells zSq 35)) := (qr _ _).alloc (qd _) _;have hq := qf Z0 (.cells zSq 35);have lq : Y2.heap.size ≤ Z0.heap.size := ky.size;refine hK.out _ _ ⟨Grd.carry hS.1 bi,Grd.carry hS.2 bi⟩ (fun hHeld => ?_)
      clear hK K
      (try simp only [qx,qa,qb,qc])
      have ky1 := ky.trans (bi.mono ky.size);replace hS := And.intro (Grd.carry hS.1 bi) (Grd.carry hS.2 bi);clear ky;have ky := ky1;clear ky1 bi;generalize Z0.alloc (.cells zSq 35) = Z1 at *;refine qm (rs := [5,10]) (by kernel_rfl) (by simp) ?_
      refine Qy rfl (fun K hK => ?_) <| Qy rfl (fun K hK => ?_) <| qt
      ·go_simp
       refine (HF7.out _ _ _ _ _ _ (HBY2.out.trans (ky.mono HBY2.out.size)) (HV2.out.next ky) (HI2.out.next ky)).mono ?_;rintro e Z2 ⟨cv',tv',gv',qa,qc,rfl,hO,hI,bi⟩;obtain ⟨a1,n1,c1,a2,n2,c2',a3,n3,c3,rfl,rfl,rfl⟩ := hO.shapes;go_wp2_with fail;refine hK.out _ _ ⟨Grd.carry hS.1 bi,Grd.carry hS.2 bi⟩ (fun hHeld => ?_)
       clear hK K
       (try simp only [qx,qa,qb,qc])
       replace hq := Grd.carry hq bi;have ky1 := ky.trans (bi.mono ky.size);replace hS := And.intro (Grd.carry hS.1 bi) (Grd.carry hS.2 bi);clear ky;have ky := ky1;clear ky1 bi;refine Qq (i := 6) (v := ?_) rfl (by kernel_rfl) (by kernel_rfl) (by kernel_rfl) (fun _ _ _ h => h) (Or.inl ⟨by rfl,?_⟩) hHeld ?_
       rotate_left
       ·intro w' hSw
        go_simp
        (try with_reducible rfl)
       (try simp only [qx,qa,qb,qc])
       refine Qq (i := 7) (v := ?_) rfl (by kernel_rfl) (by kernel_rfl) (by kernel_rfl) (fun _ _ _ h => h) (Or.inl ⟨by rfl,?_⟩) hHeld ?_
       rotate_left
       ·intro w' hSw
        go_simp
        (try with_reducible rfl)
       (try simp only [qx,qa,qb,qc])
       refine Qq (i := 8) (v := ?_) rfl (by kernel_rfl) (by kernel_rfl) (by kernel_rfl) (fun _ _ _ h => h) (Or.inl ⟨by rfl,?_⟩) hHeld ?_
       rotate_left
       ·intro w' hSw
        go_simp
        (try with_reducible rfl)
       (try simp only [qx,qa,qb,qc])
       refine Qq (i := 9) (v := ?_) rfl (by kernel_rfl) (by kernel_rfl) (by kernel_rfl) (fun _ _ _ h => h) (Or.inl ⟨by rfl,?_⟩) hHeld ?_
       rotate_left
       ·intro w' hSw
        go_simp
        (try with_reducible rfl)
       (try simp only [qx,qa,qb,qc])
       refine qm (rs := [10]) (by kernel_rfl) (by simp) ?_
       refine Qy rfl (fun K hK => ?_) <| qt
       ·go_simp
        have bi : Below Z2.heap.size Z2 (Z2.alloc (.cells zA 32)) := (qr _ _).alloc (qd _) _;have hp := qf Z2 (.cells zA 32);have lp : Y2.heap.size ≤ Z2.heap.size := ky.size;refine hK.out _ _ ⟨Grd.carry hS.1 bi,Grd.carry hS.2 bi⟩ (fun hHeld => ?_)
        clear hK K
        (try simp only [qx,qa,qb,qc])
        replace hq := Grd.carry hq bi;replace hO := Qo.next hO bi;replace hI := Grd.ownsRow_below hI bi;have ky1 := ky.trans (bi.mono ky.size);replace hS := And.intro (Grd.carry hS.1 bi) (Grd.carry hS.2 bi);clear ky;have ky := ky1;clear ky1 bi;generalize Z2.alloc (.cells zA 32) = Z3 at *;refine qm (rs := [12]) (by kernel_rfl) (by simp) ?_
        refine Qy rfl (fun K hK => ?_) <| qt
        ·have hL := qaf (A := (scT s1 a1 n1 c1 a2 n2 c2' a3 n3 c3)) (B := (stA st1 qa qc)) hp hq lp lq ky hO hI
         rw [if_pos (by rfl)]
         refine wp_store_row 32 (.tmp 13) (.tmp 59) rfl Z2.heap.size (scT s1 a1 n1 c1 a2 n2 c2' a3 n3 c3) rfl rfl _ _ hp (by kernel_rfl) rfl (Qm _ _ _ _ _ _ _ _ _ _) ?_
         refine hK.out _ _ ⟨(qg _ _ _ _ (by omega)).trans hS.1,(qg _ _ _ _ (by omega)).trans hS.2⟩ (fun hHeld => ?_)
         clear hK K
         (try simp only [qx,qa,qb,qc])
         refine qm (rs := [13]) (by kernel_rfl) (by simp) ?_
         refine Qy rfl (fun K hK => ?_) <| qt
         ·have hy1 := (qg Z3 Z2.heap.size p2 (scT s1 a1 n1 c1 a2 n2 c2' a3 n3 c3) (by omega)).trans hS.1
          have hy2 := (qg Z3 Z2.heap.size q2 (scT s1 a1 n1 c1 a2 n2 c2' a3 n3 c3) (by omega)).trans hS.2
          rw [if_pos (by rfl)]
          refine wp_store_row 35 (.tmp 14) (.tmp 60) rfl Z0.heap.size (stA st1 qa qc) rfl rfl _ _ hL.1 (by kernel_rfl) rfl (Yv _ _ _) ?_
          refine hK.out _ _ ⟨(qg _ _ _ _ (by omega)).trans hy1,(qg _ _ _ _ (by omega)).trans hy2⟩ (fun hHeld => ?_)
          clear hK K
          (try simp only [qx,qa,qb,qc])
          refine Qq (i := 14) (v := ?_) rfl (by kernel_rfl) (by kernel_rfl) (by kernel_rfl) (fun _ _ _ h => h) (Or.inl ⟨by rfl,?_⟩) hHeld ?_
          rotate_left
          ·intro w' hSw
           go_simp
           (try with_reducible rfl)
          (try simp only [qx,qa,qb,qc])
          refine wpAnyH_done (by kernel_rfl) ?_ _
          refine NoPanic.normal ?_;go_wp2_with fail;go_meet;exact ⟨Z2.heap.size,Z0.heap.size,a1,n1,c1,a2,n2,c2',a3,n3,c3,qa,qc,rfl,rfl,rfl,hL.2⟩
      ·go_simp
       have bi : Below Z1.heap.size Z1 (Z1.alloc (.cells zA 32)) := (qr _ _).alloc (qd _) _;have hp := qf Z1 (.cells zA 32);have lp : Y2.heap.size ≤ Z1.heap.size := ky.size;refine hK.out _ _ ⟨Grd.carry hS.1 bi,Grd.carry hS.2 bi⟩ (fun hHeld => ?_)
       clear hK K
       (try simp only [qx,qa,qb,qc])
       replace hq := Grd.carry hq bi;have ky1 := ky.trans (bi.mono ky.size);replace hS := And.intro (Grd.carry hS.1 bi) (Grd.carry hS.2 bi);clear ky;have ky := ky1;clear ky1 bi;generalize Z1.alloc (.cells zA 32) = Z2 at *;refine qm (rs := [5]) (by kernel_rfl) (by simp) ?_
       refine Qy rfl (fun K hK => ?_) <| qt
       ·go_simp
        refine (HF7.out _ _ _ _ _ _ (HBY2.out.trans (ky.mono HBY2.out.size)) (HV2.out.next ky) (HI2.out.next ky)).mono ?_;rintro e Z3 ⟨cv',tv',gv',qa,qc,rfl,hO,hI,bi⟩;obtain ⟨a1,n1,c1,a2,n2,c2',a3,n3,c3,rfl,rfl,rfl⟩ := hO.shapes;go_wp2_with fail;refine hK.out _ _ ⟨Grd.carry hS.1 bi,Grd.carry hS.2 bi⟩ (fun hHeld => ?_)
        clear hK K
        (try simp only [qx,qa,qb,qc])
        replace hp := Grd.carry hp bi;replace hq := Grd.carry hq bi;have ky1 := ky.trans (bi.mono ky.size);replace hS := And.intro (Grd.carry hS.1 bi) (Grd.carry hS.2 bi);clear ky;have ky := ky1;clear ky1 bi;refine Qq (i := 6) (v := ?_) rfl (by kernel_rfl) (by kernel_rfl) (by kernel_rfl) (fun _ _ _ h => h) (Or.inl ⟨by rfl,?_⟩) hHeld ?_
        rotate_left
        ·intro w' hSw
         go_simp
         (try with_reducible rfl)
        (try simp only [qx,qa,qb,qc])
        refine Qq (i := 7) (v := ?_) rfl (by kernel_rfl) (by kernel_rfl) (by kernel_rfl) (fun _ _ _ h => h) (Or.inl ⟨by rfl,?_⟩) hHeld ?_
        rotate_left
        ·intro w' hSw
         go_simp
         (try with_reducible rfl)
        (try simp only [qx,qa,qb,qc])
        refine Qq (i := 8) (v := ?_) rfl (by kernel_rfl) (by kernel_rfl) (by kernel_rfl) (fun _ _ _ h => h) (Or.inl ⟨by rfl,?_⟩) hHeld ?_
        rotate_left
        ·intro w' hSw
         go_simp
         (try with_reducible rfl)
        (try simp only [qx,qa,qb,qc])
        refine Qq (i := 9) (v := ?_) rfl (by kernel_rfl) (by kernel_rfl) (by kernel_rfl) (fun _ _ _ h => h) (Or.inl ⟨by rfl,?_⟩) hHeld ?_
        rotate_left
        ·intro w' hSw
         go_simp
         (try with_reducible rfl)
        (try simp only [qx,qa,qb,qc])
        refine qm (rs := [12]) (by kernel_rfl) (by simp) ?_
        refine Qy rfl (fun K hK => ?_) <| qt
        ·have hL := qaf (A := (scT s1 a1 n1 c1 a2 n2 c2' a3 n3 c3)) (B := (stA st1 qa qc)) hp hq lp lq ky hO hI
         rw [if_pos (by rfl)]
         refine wp_store_row 32 (.tmp 13) (.tmp 59) rfl Z1.heap.size (scT s1 a1 n1 c1 a2 n2 c2' a3 n3 c3) rfl rfl _ _ hp (by kernel_rfl) rfl (Qm _ _ _ _ _ _ _ _ _ _) ?_
         refine hK.out _ _ ⟨(qg _ _ _ _ (by omega)).trans hS.1,(qg _ _ _ _ (by omega)).trans hS.2⟩ (fun hHeld => ?_)
         clear hK K
         (try simp only [qx,qa,qb,qc])
         refine qm (rs := [13]) (by kernel_rfl) (by simp) ?_
         refine Qy rfl (fun K hK => ?_) <| qt
         ·have hy1 := (qg Z3 Z1.heap.size p2 (scT s1 a1 n1 c1 a2 n2 c2' a3 n3 c3) (by omega)).trans hS.1
          have hy2 := (qg Z3 Z1.heap.size q2 (scT s1 a1 n1 c1 a2 n2 c2' a3 n3 c3) (by omega)).trans hS.2
          rw [if_pos (by rfl)]
          refine wp_store_row 35 (.tmp 14) (.tmp 60) rfl Z0.heap.size (stA st1 qa qc) rfl rfl _ _ hL.1 (by kernel_rfl) rfl (Yv _ _ _) ?_
          refine hK.out _ _ ⟨(qg _ _ _ _ (by omega)).trans hy1,(qg _ _ _ _ (by omega)).trans hy2⟩ (fun hHeld => ?_)
          clear hK K
          (try simp only [qx,qa,qb,qc])
          refine Qq (i := 14) (v := ?_) rfl (by kernel_rfl) (by kernel_rfl) (by kernel_rfl) (fun _ _ _ h => h) (Or.inl ⟨by rfl,?_⟩) hHeld ?_
          rotate_left
          ·intro w' hSw
           go_simp
           (try with_reducible rfl)
          (try simp only [qx,qa,qb,qc])
          refine wpAnyH_done (by kernel_rfl) ?_ _
          refine NoPanic.normal ?_;go_wp2_with fail;go_meet;exact ⟨Z1.heap.size,Z0.heap.size,a1,n1,c1,a2,n2,c2',a3,n3,c3,qa,qc,rfl,rfl,rfl,hL.2⟩
    case rest =>
     obtain ⟨p3,q3,d13,m13,e13,d23,m23,e23,d33,m33,e33,qa3,qc3,rfl,rfl,rfl,g1,g2,g3,g4,g5⟩ := hcut;generalize hwc : wc = Y3 at *;clear hwc;have HBY3 : Hid (Below w.heap.size w Y3) := HBY2.out.trans (g5.mono HBY2.out.size);have HV3 : Hid (Zh Y3 s1 (.slice d13 m13 e13) (.slice d23 m23 e23) (.slice d33 m33 e33)) := g3;have HI3 : Hid (Qv Y3 (.slice qa3 st1.ps.length qc3) st1.ps) := g4;have HM1 : Hid (Y3.heap[V1.heap.size]? = _) := Grd.carry HNY1.out g5;have HM2 : Hid (Y3.heap[V1.heap.size + 1]? = _) := Grd.carry HNY2.out g5;have HW1 : Hid (Zh Y3 s1 _ _ _) := HWY.out.next g5;have HJ1 : Hid (Qv Y3 _ st1.ps) := HJY.out.next g5;have HG1b : Hid (Y3.heap[p3]? = _) := g1;have HG2b : Hid (Y3.heap[q3]? = _) := g2;clear g1 g2 g3 g4 g5 HNY1 HNY2 HWY HJY HG1 HG2 HF7 HV2 HI2 hlp hlq HBY2;go_upto_region 8 with fail
     go_wp2_with (refine BigFrame.wpList_want rfl fun K hK => wp_load_row 32 (.tmp 7) rfl V1.heap.size rfl _ _ _ _ HM1.out qu rfl (by kernel_rfl) (hK _ _ ?_))
     refine (HCK.out Y3 _ _ _ HBY3.out HW1.out).mono ?_;rintro e U1 ⟨rfl,b1⟩;have HN1 : Hid (U1.heap[V1.heap.size]? = _) := Grd.carry HM1.out b1;have HN2 : Hid (U1.heap[V1.heap.size + 1]? = _) := Grd.carry HM2.out b1;have HN3 : Hid (U1.heap[p3]? = _) := Grd.carry HG1b.out b1;have HN4 : Hid (U1.heap[q3]? = _) := Grd.carry HG2b.out b1;have HBU1 : Hid (Below w.heap.size w U1) := HBY3.out.trans (b1.mono HBY3.out.size);have HW2 : Hid (Zh U1 s1 _ _ _) := HW1.out.next b1;have HW3 : Hid (Zh U1 s1 (.slice d13 m13 e13) (.slice d23 m23 e23) (.slice d33 m33 e33)) := HV3.out.next b1;have HJ2 : Hid (Qv U1 _ st1.ps) := HJ1.out.next b1;have HJ3 : Hid (Qv U1 (.slice qa3 st1.ps.length qc3) st1.ps) := HI3.out.next b1;clear b1 HM1 HM2 HG1b HG2b HW1 HV3 HJ1 HI3 HBY3 HCK
     go_wp2_with (first
      | (refine BigFrame.wpList_want rfl fun K hK => wp_load_row 32 (.tmp 7) rfl V1.heap.size rfl _ _ _ _ HN1.out qu rfl (by kernel_rfl) (hK _ _ ?_))
      | (refine BigFrame.wpList_want rfl fun K hK => wp_load_row 32 (.tmp 13) rfl p3 rfl _ _ _ _ HN3.out qu rfl (by kernel_rfl) (hK _ _ ?_)))
     refine (qf8 s1 _ _ _ _ _ _ U1 HW2.out HW3.out HSM.out).mono ?_;rintro e U2 ⟨rfl,b1⟩;have HO2 : Hid (U2.heap[V1.heap.size + 1]? = _) := Grd.carry HN2.out b1;have HO4 : Hid (U2.heap[q3]? = _) := Grd.carry HN4.out b1;have HBU2 : Hid (Below w.heap.size w U2) := HBU1.out.trans (b1.mono HBU1.out.size);have HSS := Prs.qgd st1 _ _ U2 (HJ2.out.next b1) (HJ3.out.next b1) (by omega)
     clear b1 HN1 HN2 HN3 HN4 HW2 HW3 HBU1
     go_wp2_with (first
      | (refine BigFrame.wpList_want rfl fun K hK => wp_load_row 35 (.tmp 8) rfl (V1.heap.size + 1) rfl _ _ _ _ HO2.out Tryz.underlying35 rfl (by kernel_rfl) (hK _ _ ?_))
      | (refine BigFrame.wpList_want rfl fun K hK => wp_load_row 35 (.tmp 14) rfl q3 rfl _ _ _ _ HO4.out Tryz.underlying35 rfl (by kernel_rfl) (hK _ _ ?_)))
     refine HSS.mono ?_;rintro e U3 ⟨rfl,b1⟩;have HBU3 : Hid (Below w.heap.size w U3) := HBU2.out.trans (b1.mono HBU2.out.size);clear b1;go_wp2_with fail;go_ret;exact ⟨rfl,HBU3.out⟩
theorem qev (s : Scr) (cv tv gv : Value) (b : ByteArray) (at' er : Int) (he : er ≠ 0) (w : World) (hT : Tb w)
  (hF : ∀ W,Below w.heap.size w W → Calls qP 4 #[.agg (scrA s cv tv gv),.agg (stA (Prs.bare 0) none 0),.string b] W fun e X => e = .returned (.tuple #[.agg (scT zScr none 0 0 none 0 0 none 0 0),.agg zSq,.int .i64 er]) ∧ Below W.heap.size W X) :
  Calls qP 3 #[.agg (scrA s cv tv gv),.string b,.int .i64 at'] w fun e w' => e = .returned (.bool true) ∧ Below w.heap.size w w' := by
 have x0 := qf w (.cells (scrA s cv tv gv) 32);have kb : Below w.heap.size w (w.alloc (.cells (scrA s cv tv gv) 32)) := (qr _ _).alloc (qd _) _;have HP : Hid (∀ W,Below w.heap.size w W → Calls qP 5 #[] W fun e w' => e = .returned (.bool true) ∧ Below W.heap.size W w') := fun W h => qeb W (hT.next h).t
 have HF1 : Hid _ := hF;have he1 : (er != 0) = true := by simp [he]
 have HX0 : Hid _ := x0;have HKB : Hid _ := kb;clear x0 kb hT hF he;go_enter Tryz.func3,Tryz.ntmps3;go_wp2_with (refine wpList_load_row rfl 32 (.tmp 3) rfl w.heap.size rfl _ _ _ _ HX0.out qu rfl (by kernel_rfl) ?_)
 refine (HF1.out _ HKB.out).mono ?_;rintro e V1 ⟨rfl,b1⟩;have HB1 : Hid (Below w.heap.size w V1) := HKB.out.trans (b1.mono HKB.out.size);obtain ⟨k1,k2,k3,k4,k5,k6⟩ := qx7 (A := (scT zScr none 0 0 none 0 0 none 0 0)) (B := zSq) HB1.out;have HL1 : Hid _ := k1;have HL2 : Hid _ := k2;have HN1 : Hid _ := k6;clear b1 k1 k2 k3 k4 k5 k6 HF1 HX0 HKB HB1;go_upto_region 2 with (first | (refine qh rfl 32 (.tmp 7) _ rfl V1.heap.size (scT zScr none 0 0 none 0 0 none 0 0) rfl rfl _ _ HL1.out (by kernel_rfl) rfl (Qm _ _ _ _ _ _ _ _ _ _) ?_) | (refine qh rfl 35 (.tmp 8) _ rfl (V1.heap.size + 1) zSq rfl rfl _ _ HL2.out (by kernel_rfl) rfl (qhq _ _ _ _ _ _ _ _ _) ?_))
 generalize (((V1.alloc (.cells zA 32)).alloc (.cells zSq 35)).setRow V1.heap.size (scT zScr none 0 0 none 0 0 none 0 0)).setRow (V1.heap.size + 1) zSq = X1 at *;clear HL1 HL2;go_wp2_with fail;refine (HP.out X1 HN1.out).mono ?_;rintro e Y ⟨rfl,bp⟩;have HBY : Hid (Below w.heap.size w Y) := HN1.out.trans (bp.mono HN1.out.size);clear bp HN1;go_wp2_with fail;refine (HP.out Y HBY.out).mono ?_;rintro e U ⟨rfl,bp⟩;have HBU : Hid (Below w.heap.size w U) := HBY.out.trans (bp.mono HBY.out.size);clear bp;go_wp2_with fail;go_ret;exact ⟨rfl,HBU.out⟩
theorem screenRight_walk (s : Scr) (cv tv gv : Value) (b : ByteArray) (at' : Int) (w : World) (hT : Tb w) (hV : Zh w s cv tv gv) (hF : Fits s) :
  Calls qP 3 #[.agg (scrA s cv tv gv),.string b,.int .i64 at'] w fun e w' => e = .returned (.bool true) ∧ Below w.heap.size w w' := by
 by_cases hz : Qj s = 0
 ·by_cases hl : b.size ≤ 4000
  ·obtain ⟨n, hh, hR⟩ := qx0 s hz
   exact qru s cv tv gv b at' w hT hV n hh hR hl
  ·refine qev s cv tv gv b at' 2 (by decide) w hT fun W h => ?_
   exact qqh (hT.next h).t (hV.next h) hF hz (Prs.bare 0) none 0 (qx4 W) okSB (hT.next h).p (by decide) (by decide) b (by omega)
 ·refine qev s cv tv gv b at' (Qj s) hz w hT fun W h => ?_
  exact qty (hT.next h).t (hV.next h) hF hz (Prs.bare 0) none 0 b
end Put
end Go.Proofs.YtooobiigijphkaaGreatDoor
