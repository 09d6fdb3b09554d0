/- Parts of the proof, shortened by a program. -/
import Derived.Test.YtooobiigijphkaaGreatDoorPartE
import Derived.BigFrame
import Derived.Test.YtooobiigijphkaaGreatDoorRows
import Derived.Test.YtooobiigijphkaaGreatDoorProg
import Derived.RangeFuncBox
import Derived.RangeFuncLeaves
import Derived.Shelf.Abstract
import Derived.Shelf.RegionOpen
import Derived.WalkKit
import Derived.OwnWalkIn
import Derived.TacticsInMore
import Derived.LoopNIn
import Derived.LoopIn
import Derived.Maps.AppendAt
import Derived.Sort.BigQuietIn
import Derived.WalkSmall
import Derived.Test.YtooobiigijphkaaGreatDoorPartD
import Derived.Deep.RegionHeld3
import Derived.Deep.Cut
import Derived.Deep.CutRange
import Derived.Lib.AppendZeros
set_option maxHeartbeats 16000000
open Nat renaming le_refl → qd
open List renaming getD → qy
open Go renaming heap_alloc_new → qf
open Go.RowKit.Below renaming refl → qr
open Go.Proofs.Tryz renaming prog → qP
namespace Go.Proofs.YtooobiigijphkaaGreatDoor
set_option linter.unusedVariables false
set_option linter.unusedSimpArgs false
set_option maxRecDepth 100000
open Go.ChangeShapes Go.WideShapes Go.ChangeAt Go.RowKit
namespace Put
open Grd (C SliceAt Qb Qf z0)
open Sty (Q5)
open Txt (wd)
def Z6 (s : Scr) : Bool := s.late && (!decide (s.x = s.w - 1) || decide (bits .and .i64 s.modes 4 = 0))
def Vb (s : Scr) : Bool := hasC s.w s.h s.x s.y && (hasC s.w s.h s.kx s.ky && Kz s.h s.top s.bot)
def Za (s : Scr) : Bool := Q5 (s.sf,s.sb,s.sx) && (Q5 (s.kf,s.kb,s.kbits) && (decide (0 ≤ s.modes ∧ s.modes ≤ 63) && K5 s.km))
def Xo (s : Scr) : Bool := decide ((s.tabs.length : Int) = s.w) && ((decide (s.last = 0) || !decide (wd s.last = 0)) && J6 s.title)
def Qj (s : Scr) : Int :=
 if Qf s.w s.h s.cs ≠ 0 then Qf s.w s.h s.cs
 else if Vb s = false then 4
 else if Z6 s = true then 5
 else if Za s = false then 4
 else if Xo s = false then 5
 else X8 s.gone
structure Fits (s : Scr) : Prop where
 m0 : -9223372036854775808 ≤ s.modes
 m1 : s.modes ≤ 9223372036854775807
 k0 : -9223372036854775808 ≤ s.km
 k1 : s.km ≤ 9223372036854775807
 tl : s.title.size ≤ 1048576
 gl : s.gone.length ≤ 1048576
 bl : s.tabs.length ≤ 1048576
theorem Vk {a h : Int} {cs : List C} (hz : Qf a h cs = 0) : 1 ≤ a ∧ a ≤ 120 ∧ 1 ≤ h ∧ h ≤ 60 := by
 unfold Qf at hz
 cases hs : Grd.Zk a h with
 | false => rw [hs] at hz;simp at hz
 | true =>
  have h2 : 1 ≤ a ∧ a ≤ 120 ∧ 1 ≤ h ∧ h ≤ 60 := by simpa [Grd.Zk] using hs
  exact h2
theorem Zt (s : Scr) (cv tv gv : Value) (w : World) (hT : Txt.Tab w) (hV : Zh w s cv tv gv) (hF : Fits s) :
  Calls qP 6 #[.agg (scrA s cv tv gv)] w fun e w' => e = .returned (.int .i64 (Qj s)) ∧ Below w.heap.size w w' := by
 obtain ⟨ca,cc,hcv⟩ := hV.c.shape;obtain ⟨ta,tc,htv⟩ := hV.t.slice;obtain ⟨ga,gc,hgv⟩ := hV.g.slice;subst hcv htv hgv;have x0 := qf w (.cells (scS s ca cc ta tc ga gc) 32);have kb : Below w.heap.size w (w.alloc (.cells (scS s ca cc ta tc ga gc) 32)) := (qr _ _).alloc (qd _) _;have HRG : Hid (∀ W,Calls qP 16 #[.agg (scS s ca cc ta tc ga gc)] W fun e w' => e = .returned (.bool (Kz s.h s.top s.bot)) ∧ Below W.heap.size W w') := fun W => qhr s _ _ _ W
 have HB0 : Hid _ := kb;have HX0 : Hid _ := x0;have HT : Hid (∀ W,Below w.heap.size w W → Txt.Tab W) := fun W hW => Grd.Tab.next hT hW
 have HV : Hid (Zh w s _ _ _) := hV;have HF : Hid (Fits s) := hF;obtain ⟨res,hres⟩ : ∃ res,Qj s = res := ⟨_,rfl⟩;rw [hres];have HC : Hid (Qj s = res) := hres;obtain ⟨⟨c0,c1,c2,c3,c4,c5,c6,c7,c8,c9,c10⟩,⟨c11,c12,c13,c14,c15,c16,c17,c18,c19,c20,c21⟩,-⟩ := Qi x0;have HGC := Grd.Xd s.w s.h _ s.cs _ (HT.out _ HB0.out) (HV.out.c.below HB0.out);clear x0 kb hT hV hF hres
 by_cases hz : Qf s.w s.h s.cs = 0
 case neg =>
  have hzb : (Qf s.w s.h s.cs != 0) = true := by simp [bne,hz]
  have HR : Hid (Qf s.w s.h s.cs = res) := by
   unfold Hid;rw [← HC.out];unfold Qj;rw [if_pos hz]
  clear hz;generalize Qf s.w s.h s.cs = ge at *;go_enter Tryz.func6,Tryz.ntmps6;go_wp2_with fail;refine HGC.mono ?_;rintro e W1 ⟨rfl,b⟩;clear c0 c1 c2 c3 c4 c5 c6 c7 c8 c9 c10 c11 c12 c13 c14 c15 c16 c17 c18 c19 c20 c21;go_wp2_with fail;go_ret;exact ⟨Q6 HR.out,HB0.out.trans (b.mono HB0.out.size)⟩
 obtain ⟨w1,w2,w3,w4⟩ := Vk hz;rw [hz] at HGC;have HZ : Hid (Qf s.w s.h s.cs = 0) := hz;clear hz;go_enter Tryz.func6,Tryz.ntmps6;go_wp2_with fail;refine (HGC).mono ?_;rintro e W1 ⟨rfl,b⟩;have HX1 : Hid (W1.heap[w.heap.size]? = _) := Grd.carry HX0.out b;have HB1 : Hid (Below w.heap.size w W1) := HB0.out.trans (b.mono HB0.out.size);clear c0 c1 c2 c3 c4 c5 c6 c7 c8 c9 c10 c11 c12 c13 c14 c15 c16 c17 c18 c19 c20 c21 b;obtain ⟨⟨c0,c1,c2,c3,c4,c5,c6,c7,c8,c9,c10⟩,⟨c11,c12,c13,c14,c15,c16,c17,c18,c19,c20,c21⟩,-⟩ := Qi HX1.out;go_wp2_with fail
 cases h1 : hasC s.w s.h s.x s.y with
 | false =>
  have H1 := Un s.w s.h (.slice ca s.cs.length cc) s.x s.y W1;rw [h1] at H1;refine (H1).mono ?_;rintro e W2 ⟨rfl,b⟩;have HX2 : Hid (W2.heap[w.heap.size]? = _) := Grd.carry HX1.out b;have HB2 : Hid (Below w.heap.size w W2) := HB1.out.trans (b.mono HB1.out.size);clear c0 c1 c2 c3 c4 c5 c6 c7 c8 c9 c10 c11 c12 c13 c14 c15 c16 c17 c18 c19 c20 c21 b;obtain ⟨⟨c0,c1,c2,c3,c4,c5,c6,c7,c8,c9,c10⟩,⟨c11,c12,c13,c14,c15,c16,c17,c18,c19,c20,c21⟩,-⟩ := Qi HX2.out;go_wp2_with fail;have HR : Hid (4 = res) := by
   unfold Hid;rw [← HC.out];simp [Qj,HZ.out,Vb,h1]
  clear c0 c1 c2 c3 c4 c5 c6 c7 c8 c9 c10 c11 c12 c13 c14 c15 c16 c17 c18 c19 c20 c21;go_wp2_with fail;go_ret;exact ⟨Q6 HR.out,HB2.out⟩
 | true =>
 have H1 := Un s.w s.h (.slice ca s.cs.length cc) s.x s.y W1;rw [h1] at H1;refine (H1).mono ?_;rintro e W2 ⟨rfl,b⟩;have HX2 : Hid (W2.heap[w.heap.size]? = _) := Grd.carry HX1.out b;have HB2 : Hid (Below w.heap.size w W2) := HB1.out.trans (b.mono HB1.out.size);clear c0 c1 c2 c3 c4 c5 c6 c7 c8 c9 c10 c11 c12 c13 c14 c15 c16 c17 c18 c19 c20 c21 b;obtain ⟨⟨c0,c1,c2,c3,c4,c5,c6,c7,c8,c9,c10⟩,⟨c11,c12,c13,c14,c15,c16,c17,c18,c19,c20,c21⟩,-⟩ := Qi HX2.out;go_wp2_with fail
 cases h2 : hasC s.w s.h s.kx s.ky with
 | false =>
  have H2 := Un s.w s.h (.slice ca s.cs.length cc) s.kx s.ky W2;rw [h2] at H2;refine (H2).mono ?_;rintro e W3 ⟨rfl,b⟩;have HX3 : Hid (W3.heap[w.heap.size]? = _) := Grd.carry HX2.out b;have HB3 : Hid (Below w.heap.size w W3) := HB2.out.trans (b.mono HB2.out.size);clear c0 c1 c2 c3 c4 c5 c6 c7 c8 c9 c10 c11 c12 c13 c14 c15 c16 c17 c18 c19 c20 c21 b;obtain ⟨⟨c0,c1,c2,c3,c4,c5,c6,c7,c8,c9,c10⟩,⟨c11,c12,c13,c14,c15,c16,c17,c18,c19,c20,c21⟩,-⟩ := Qi HX3.out;go_wp2_with fail;have HR : Hid (4 = res) := by
   unfold Hid;rw [← HC.out];simp [Qj,HZ.out,Vb,h1,h2]
  clear c0 c1 c2 c3 c4 c5 c6 c7 c8 c9 c10 c11 c12 c13 c14 c15 c16 c17 c18 c19 c20 c21;go_wp2_with fail;go_ret;exact ⟨Q6 HR.out,HB3.out⟩
 | true =>
 have H2 := Un s.w s.h (.slice ca s.cs.length cc) s.kx s.ky W2;rw [h2] at H2;refine (H2).mono ?_;rintro e W3 ⟨rfl,b⟩;have HX3 : Hid (W3.heap[w.heap.size]? = _) := Grd.carry HX2.out b;have HB3 : Hid (Below w.heap.size w W3) := HB2.out.trans (b.mono HB2.out.size);clear c0 c1 c2 c3 c4 c5 c6 c7 c8 c9 c10 c11 c12 c13 c14 c15 c16 c17 c18 c19 c20 c21 b;obtain ⟨⟨c0,c1,c2,c3,c4,c5,c6,c7,c8,c9,c10⟩,⟨c11,c12,c13,c14,c15,c16,c17,c18,c19,c20,c21⟩,-⟩ := Qi HX3.out;go_wp2_with (refine BigFrame.wpList_want rfl fun K hK => wp_load_row 32 (.tmp 1) rfl w.heap.size rfl _ _ _ _ HX3.out Tryz.underlying32 rfl (by kernel_rfl) (hK _ _ ?_))
 cases h3 : Kz s.h s.top s.bot with
 | false =>
  have H3 := HRG.out W3;rw [h3] at H3;refine (H3).mono ?_;rintro e W4 ⟨rfl,b⟩;have HX4 : Hid (W4.heap[w.heap.size]? = _) := Grd.carry HX3.out b;have HB4 : Hid (Below w.heap.size w W4) := HB3.out.trans (b.mono HB3.out.size);clear c0 c1 c2 c3 c4 c5 c6 c7 c8 c9 c10 c11 c12 c13 c14 c15 c16 c17 c18 c19 c20 c21 b;obtain ⟨⟨c0,c1,c2,c3,c4,c5,c6,c7,c8,c9,c10⟩,⟨c11,c12,c13,c14,c15,c16,c17,c18,c19,c20,c21⟩,-⟩ := Qi HX4.out;go_wp2_with fail;have HR : Hid (4 = res) := by
   unfold Hid;rw [← HC.out];simp [Qj,HZ.out,Vb,h1,h2,h3]
  clear c0 c1 c2 c3 c4 c5 c6 c7 c8 c9 c10 c11 c12 c13 c14 c15 c16 c17 c18 c19 c20 c21;go_wp2_with fail;go_ret;exact ⟨Q6 HR.out,HB4.out⟩
 | true =>
 have H3 := HRG.out W3;rw [h3] at H3;have HP : Hid (Vb s = true) := by unfold Hid Vb;rw [h1,h2,h3];rfl
 clear H1 H2 h1 h2 h3 HGC
 cases hl : s.late with
 | false =>
  have HLT : Hid (Z6 s = false) := by unfold Hid Z6;rw [hl];rfl
  refine (H3).mono ?_;rintro e W4 ⟨rfl,b⟩;have HX4 : Hid (W4.heap[w.heap.size]? = _) := Grd.carry HX3.out b;have HB4 : Hid (Below w.heap.size w W4) := HB3.out.trans (b.mono HB3.out.size);clear c0 c1 c2 c3 c4 c5 c6 c7 c8 c9 c10 c11 c12 c13 c14 c15 c16 c17 c18 c19 c20 c21 b;obtain ⟨⟨c0,c1,c2,c3,c4,c5,c6,c7,c8,c9,c10⟩,⟨c11,c12,c13,c14,c15,c16,c17,c18,c19,c20,c21⟩,-⟩ := Qi HX4.out;go_wp2_with fail;clear H3 HRG
  cases h5 : Q5 (s.sf,s.sb,s.sx) with
  | false =>
   have H5 := Sty.Xd s.sf s.sb s.sx W4;rw [h5] at H5;refine (H5).mono ?_;rintro e W5 ⟨rfl,b⟩;have HX5 : Hid (W5.heap[w.heap.size]? = _) := Grd.carry HX4.out b;have HB5 : Hid (Below w.heap.size w W5) := HB4.out.trans (b.mono HB4.out.size);clear c0 c1 c2 c3 c4 c5 c6 c7 c8 c9 c10 c11 c12 c13 c14 c15 c16 c17 c18 c19 c20 c21 b;obtain ⟨⟨c0,c1,c2,c3,c4,c5,c6,c7,c8,c9,c10⟩,⟨c11,c12,c13,c14,c15,c16,c17,c18,c19,c20,c21⟩,-⟩ := Qi HX5.out;go_wp2_with fail;have HR : Hid (4 = res) := by
    unfold Hid;rw [← HC.out];simp [Qj,HZ.out,HP.out,HLT.out,Za,h5]
   clear c0 c1 c2 c3 c4 c5 c6 c7 c8 c9 c10 c11 c12 c13 c14 c15 c16 c17 c18 c19 c20 c21;go_wp2_with fail;go_ret;exact ⟨Q6 HR.out,HB5.out⟩
  | true =>
   have H5 := Sty.Xd s.sf s.sb s.sx W4;rw [h5] at H5;refine (H5).mono ?_;rintro e W5 ⟨rfl,b⟩;have HX5 : Hid (W5.heap[w.heap.size]? = _) := Grd.carry HX4.out b;have HB5 : Hid (Below w.heap.size w W5) := HB4.out.trans (b.mono HB4.out.size);clear c0 c1 c2 c3 c4 c5 c6 c7 c8 c9 c10 c11 c12 c13 c14 c15 c16 c17 c18 c19 c20 c21 b;obtain ⟨⟨c0,c1,c2,c3,c4,c5,c6,c7,c8,c9,c10⟩,⟨c11,c12,c13,c14,c15,c16,c17,c18,c19,c20,c21⟩,-⟩ := Qi HX5.out;go_wp2_with fail
   cases h6 : Q5 (s.kf,s.kb,s.kbits) with
   | false =>
    have H6 := Sty.Xd s.kf s.kb s.kbits W5;rw [h6] at H6;refine (H6).mono ?_;rintro e W6 ⟨rfl,b⟩;have HX6 : Hid (W6.heap[w.heap.size]? = _) := Grd.carry HX5.out b;have HB6 : Hid (Below w.heap.size w W6) := HB5.out.trans (b.mono HB5.out.size);clear c0 c1 c2 c3 c4 c5 c6 c7 c8 c9 c10 c11 c12 c13 c14 c15 c16 c17 c18 c19 c20 c21 b;obtain ⟨⟨c0,c1,c2,c3,c4,c5,c6,c7,c8,c9,c10⟩,⟨c11,c12,c13,c14,c15,c16,c17,c18,c19,c20,c21⟩,-⟩ := Qi HX6.out;go_wp2_with fail;have HR : Hid (4 = res) := by
     unfold Hid;rw [← HC.out];simp [Qj,HZ.out,HP.out,HLT.out,Za,h5,h6]
    clear c0 c1 c2 c3 c4 c5 c6 c7 c8 c9 c10 c11 c12 c13 c14 c15 c16 c17 c18 c19 c20 c21;go_wp2_with fail;go_ret;exact ⟨Q6 HR.out,HB6.out⟩
   | true =>
    have H6 := Sty.Xd s.kf s.kb s.kbits W5;rw [h6] at H6
    by_cases hm : 0 ≤ s.modes ∧ s.modes ≤ 63
    case neg =>
     have hmb : (bits .andNot .i64 s.modes 63 != 0) = true := by rw [bne_iff_ne];intro h;exact hm ((qaw _ HF.out.m0 HF.out.m1).1 h)
     refine (H6).mono ?_;rintro e W6 ⟨rfl,b⟩;have HX6 : Hid (W6.heap[w.heap.size]? = _) := Grd.carry HX5.out b;have HB6 : Hid (Below w.heap.size w W6) := HB5.out.trans (b.mono HB5.out.size);clear c0 c1 c2 c3 c4 c5 c6 c7 c8 c9 c10 c11 c12 c13 c14 c15 c16 c17 c18 c19 c20 c21 b;obtain ⟨⟨c0,c1,c2,c3,c4,c5,c6,c7,c8,c9,c10⟩,⟨c11,c12,c13,c14,c15,c16,c17,c18,c19,c20,c21⟩,-⟩ := Qi HX6.out;go_wp2_with fail;have HR : Hid (4 = res) := by
      unfold Hid;rw [← HC.out];simp [Qj,HZ.out,HP.out,HLT.out,Za,h5,h6,hm]
     clear c0 c1 c2 c3 c4 c5 c6 c7 c8 c9 c10 c11 c12 c13 c14 c15 c16 c17 c18 c19 c20 c21;go_wp2_with fail;go_ret;exact ⟨Q6 HR.out,HB6.out⟩
    have hmb : (bits .andNot .i64 s.modes 63 != 0) = false := by rw [bne_eq_false_iff_eq];exact (qaw _ HF.out.m0 HF.out.m1).2 hm
    cases h7 : K5 s.km with
    | false =>
     have hkb : (bits .andNot .i64 s.km 6 != 0) = true := by rw [bne_iff_ne];intro h;rw [(qfa _ HF.out.k0 HF.out.k1).1 h] at h7;cases h7
     refine (H6).mono ?_;rintro e W6 ⟨rfl,b⟩;have HX6 : Hid (W6.heap[w.heap.size]? = _) := Grd.carry HX5.out b;have HB6 : Hid (Below w.heap.size w W6) := HB5.out.trans (b.mono HB5.out.size);clear c0 c1 c2 c3 c4 c5 c6 c7 c8 c9 c10 c11 c12 c13 c14 c15 c16 c17 c18 c19 c20 c21 b;obtain ⟨⟨c0,c1,c2,c3,c4,c5,c6,c7,c8,c9,c10⟩,⟨c11,c12,c13,c14,c15,c16,c17,c18,c19,c20,c21⟩,-⟩ := Qi HX6.out;go_wp2_with fail;have HR : Hid (4 = res) := by
      unfold Hid;rw [← HC.out];simp [Qj,HZ.out,HP.out,HLT.out,Za,h5,h6,hm,h7]
     clear c0 c1 c2 c3 c4 c5 c6 c7 c8 c9 c10 c11 c12 c13 c14 c15 c16 c17 c18 c19 c20 c21;go_wp2_with fail;go_ret;exact ⟨Q6 HR.out,HB6.out⟩
    | true =>
     have hkb : (bits .andNot .i64 s.km 6 != 0) = false := by rw [bne_eq_false_iff_eq];exact (qfa _ HF.out.k0 HF.out.k1).2 h7
     have HLK : Hid (Za s = true) := by unfold Hid Za;simp [h5,h6,h7,hm]
     clear h5 h6 h7 hm;have htb := HF.out.bl
     by_cases t1 : (s.tabs.length : Int) = s.w
     case neg =>
      have t1b : ((s.tabs.length : Int) != s.w) = true := by rw [bne_iff_ne];exact t1
      have HT1 : Hid (¬ (s.tabs.length : Int) = s.w) := t1;clear t1;refine (H6).mono ?_;rintro e W6 ⟨rfl,b⟩;have HX6 : Hid (W6.heap[w.heap.size]? = _) := Grd.carry HX5.out b;have HB6 : Hid (Below w.heap.size w W6) := HB5.out.trans (b.mono HB5.out.size);clear c0 c1 c2 c3 c4 c5 c6 c7 c8 c9 c10 c11 c12 c13 c14 c15 c16 c17 c18 c19 c20 c21 b;obtain ⟨⟨c0,c1,c2,c3,c4,c5,c6,c7,c8,c9,c10⟩,⟨c11,c12,c13,c14,c15,c16,c17,c18,c19,c20,c21⟩,-⟩ := Qi HX6.out;go_wp2_with fail;have HR : Hid (5 = res) := by
       unfold Hid;rw [← HC.out];simp [Qj,HZ.out,HP.out,HLT.out,HLK.out,Xo,HT1.out]
      clear c0 c1 c2 c3 c4 c5 c6 c7 c8 c9 c10 c11 c12 c13 c14 c15 c16 c17 c18 c19 c20 c21;go_wp2_with fail;go_ret;exact ⟨Q6 HR.out,HB6.out⟩
     have t1b : ((s.tabs.length : Int) != s.w) = false := by rw [bne_eq_false_iff_eq];exact t1
     have HT1 : Hid ((s.tabs.length : Int) = s.w) := t1;clear t1
     by_cases l0 : s.last = 0
     ·have l0b : (s.last != 0) = false := by rw [bne_eq_false_iff_eq]; exact l0
      have HL0 : Hid ((decide (s.last = 0) || !decide (wd s.last = 0)) = true) := by unfold Hid;rw [decide_eq_true l0];rfl
      clear l0;refine (H6).mono ?_;rintro e W6 ⟨rfl,b⟩;have HX6 : Hid (W6.heap[w.heap.size]? = _) := Grd.carry HX5.out b;have HB6 : Hid (Below w.heap.size w W6) := HB5.out.trans (b.mono HB5.out.size);clear c0 c1 c2 c3 c4 c5 c6 c7 c8 c9 c10 c11 c12 c13 c14 c15 c16 c17 c18 c19 c20 c21 b;obtain ⟨⟨c0,c1,c2,c3,c4,c5,c6,c7,c8,c9,c10⟩,⟨c11,c12,c13,c14,c15,c16,c17,c18,c19,c20,c21⟩,-⟩ := Qi HX6.out;go_wp2_with fail;clear H5 H6
      cases h9 : J6 s.title with
      | false =>
       have H9 := Jp s.title W6 (HT.out _ HB6.out) HF.out.tl;rw [h9] at H9;refine (H9).mono ?_;rintro e W7 ⟨rfl,b⟩;have HX7 : Hid (W7.heap[w.heap.size]? = _) := Grd.carry HX6.out b;have HB7 : Hid (Below w.heap.size w W7) := HB6.out.trans (b.mono HB6.out.size);clear c0 c1 c2 c3 c4 c5 c6 c7 c8 c9 c10 c11 c12 c13 c14 c15 c16 c17 c18 c19 c20 c21 b;obtain ⟨⟨c0,c1,c2,c3,c4,c5,c6,c7,c8,c9,c10⟩,⟨c11,c12,c13,c14,c15,c16,c17,c18,c19,c20,c21⟩,-⟩ := Qi HX7.out;go_wp2_with fail;have HR : Hid (5 = res) := by
        unfold Hid;rw [← HC.out];simp [Qj,HZ.out,HP.out,HLT.out,HLK.out,Xo,h9]
       clear c0 c1 c2 c3 c4 c5 c6 c7 c8 c9 c10 c11 c12 c13 c14 c15 c16 c17 c18 c19 c20 c21;go_wp2_with fail;go_ret;exact ⟨Q6 HR.out,HB7.out⟩
      | true =>
       have H9 := Jp s.title W6 (HT.out _ HB6.out) HF.out.tl;rw [h9] at H9;have HRS : Hid (Xo s = true) := by unfold Hid Xo;simp [HL0.out,HT1.out,h9]
       clear h9;refine (H9).mono ?_;rintro e W7 ⟨rfl,b⟩;have HX7 : Hid (W7.heap[w.heap.size]? = _) := Grd.carry HX6.out b;have HB7 : Hid (Below w.heap.size w W7) := HB6.out.trans (b.mono HB6.out.size);clear c0 c1 c2 c3 c4 c5 c6 c7 c8 c9 c10 c11 c12 c13 c14 c15 c16 c17 c18 c19 c20 c21 b;obtain ⟨⟨c0,c1,c2,c3,c4,c5,c6,c7,c8,c9,c10⟩,⟨c11,c12,c13,c14,c15,c16,c17,c18,c19,c20,c21⟩,-⟩ := Qi HX7.out;go_wp2_with fail;clear H9;have HGN := Kl s.gone _ W7 (HT.out _ HB7.out) (HV.out.g.next HB7.out) HF.out.gl;have HR : Hid (X8 s.gone = res) := by
        unfold Hid;rw [← HC.out];simp [Qj,HZ.out,HP.out,HLT.out,HLK.out,HRS.out]
       generalize X8 s.gone = ge at HGN HR;refine HGN.mono ?_;rintro e V ⟨rfl,b⟩;clear c0 c1 c2 c3 c4 c5 c6 c7 c8 c9 c10 c11 c12 c13 c14 c15 c16 c17 c18 c19 c20 c21;go_wp2_with fail;go_ret;exact ⟨Q6 HR.out,HB7.out.trans (b.mono HB7.out.size)⟩
     ·have l0b : (s.last != 0) = true := by rw [bne_iff_ne]; exact l0
      have HL1 : Hid (¬ s.last = 0) := l0;clear l0
      by_cases l1 : wd s.last = 0
      ·have HL2 : Hid (wd s.last = 0) := l1
       clear l1;refine (H6).mono ?_;rintro e W6 ⟨rfl,b⟩;have HX6 : Hid (W6.heap[w.heap.size]? = _) := Grd.carry HX5.out b;have HB6 : Hid (Below w.heap.size w W6) := HB5.out.trans (b.mono HB5.out.size);clear c0 c1 c2 c3 c4 c5 c6 c7 c8 c9 c10 c11 c12 c13 c14 c15 c16 c17 c18 c19 c20 c21 b;obtain ⟨⟨c0,c1,c2,c3,c4,c5,c6,c7,c8,c9,c10⟩,⟨c11,c12,c13,c14,c15,c16,c17,c18,c19,c20,c21⟩,-⟩ := Qi HX6.out;go_wp2_with fail;have H8 := Grd.Yn s.last W6 (HT.out _ HB6.out) 0 HL2.out;refine (H8).mono ?_;rintro e W7 ⟨rfl,b⟩;have HX7 : Hid (W7.heap[w.heap.size]? = _) := Grd.carry HX6.out b;have HB7 : Hid (Below w.heap.size w W7) := HB6.out.trans (b.mono HB6.out.size);clear c0 c1 c2 c3 c4 c5 c6 c7 c8 c9 c10 c11 c12 c13 c14 c15 c16 c17 c18 c19 c20 c21 b;obtain ⟨⟨c0,c1,c2,c3,c4,c5,c6,c7,c8,c9,c10⟩,⟨c11,c12,c13,c14,c15,c16,c17,c18,c19,c20,c21⟩,-⟩ := Qi HX7.out;go_wp2_with fail;have HR : Hid (5 = res) := by
        unfold Hid;rw [← HC.out];simp [Qj,HZ.out,HP.out,HLT.out,HLK.out,Xo,HL1.out,HL2.out]
       clear c0 c1 c2 c3 c4 c5 c6 c7 c8 c9 c10 c11 c12 c13 c14 c15 c16 c17 c18 c19 c20 c21;go_wp2_with fail;go_ret;exact ⟨Q6 HR.out,HB7.out⟩
      ·have l1b : (wd s.last == 0) = false := by rw [beq_eq_false_iff_ne]; exact l1
       have HL0 : Hid ((decide (s.last = 0) || !decide (wd s.last = 0)) = true) := by unfold Hid;rw [decide_eq_false l1];simp
       clear l1;refine (H6).mono ?_;rintro e W6 ⟨rfl,b⟩;have HX6 : Hid (W6.heap[w.heap.size]? = _) := Grd.carry HX5.out b;have HB6 : Hid (Below w.heap.size w W6) := HB5.out.trans (b.mono HB5.out.size);clear c0 c1 c2 c3 c4 c5 c6 c7 c8 c9 c10 c11 c12 c13 c14 c15 c16 c17 c18 c19 c20 c21 b;obtain ⟨⟨c0,c1,c2,c3,c4,c5,c6,c7,c8,c9,c10⟩,⟨c11,c12,c13,c14,c15,c16,c17,c18,c19,c20,c21⟩,-⟩ := Qi HX6.out;go_wp2_with fail;have H8 := Grd.Yn s.last W6 (HT.out _ HB6.out) _ rfl;refine (H8).mono ?_;rintro e W7 ⟨rfl,b⟩;have HX7 : Hid (W7.heap[w.heap.size]? = _) := Grd.carry HX6.out b;have HB7 : Hid (Below w.heap.size w W7) := HB6.out.trans (b.mono HB6.out.size);clear c0 c1 c2 c3 c4 c5 c6 c7 c8 c9 c10 c11 c12 c13 c14 c15 c16 c17 c18 c19 c20 c21 b;obtain ⟨⟨c0,c1,c2,c3,c4,c5,c6,c7,c8,c9,c10⟩,⟨c11,c12,c13,c14,c15,c16,c17,c18,c19,c20,c21⟩,-⟩ := Qi HX7.out;go_wp2_with fail;clear H5 H6 H8
       cases h9 : J6 s.title with
       | false =>
        have H9 := Jp s.title W7 (HT.out _ HB7.out) HF.out.tl;rw [h9] at H9;refine (H9).mono ?_;rintro e W8 ⟨rfl,b⟩;have HX8 : Hid (W8.heap[w.heap.size]? = _) := Grd.carry HX7.out b;have HB8 : Hid (Below w.heap.size w W8) := HB7.out.trans (b.mono HB7.out.size);clear c0 c1 c2 c3 c4 c5 c6 c7 c8 c9 c10 c11 c12 c13 c14 c15 c16 c17 c18 c19 c20 c21 b;obtain ⟨⟨c0,c1,c2,c3,c4,c5,c6,c7,c8,c9,c10⟩,⟨c11,c12,c13,c14,c15,c16,c17,c18,c19,c20,c21⟩,-⟩ := Qi HX8.out;go_wp2_with fail;have HR : Hid (5 = res) := by
         unfold Hid;rw [← HC.out];simp [Qj,HZ.out,HP.out,HLT.out,HLK.out,Xo,h9]
        clear c0 c1 c2 c3 c4 c5 c6 c7 c8 c9 c10 c11 c12 c13 c14 c15 c16 c17 c18 c19 c20 c21;go_wp2_with fail;go_ret;exact ⟨Q6 HR.out,HB8.out⟩
       | true =>
        have H9 := Jp s.title W7 (HT.out _ HB7.out) HF.out.tl;rw [h9] at H9;have HRS : Hid (Xo s = true) := by unfold Hid Xo;simp [HL0.out,HT1.out,h9]
        clear h9;refine (H9).mono ?_;rintro e W8 ⟨rfl,b⟩;have HX8 : Hid (W8.heap[w.heap.size]? = _) := Grd.carry HX7.out b;have HB8 : Hid (Below w.heap.size w W8) := HB7.out.trans (b.mono HB7.out.size);clear c0 c1 c2 c3 c4 c5 c6 c7 c8 c9 c10 c11 c12 c13 c14 c15 c16 c17 c18 c19 c20 c21 b;obtain ⟨⟨c0,c1,c2,c3,c4,c5,c6,c7,c8,c9,c10⟩,⟨c11,c12,c13,c14,c15,c16,c17,c18,c19,c20,c21⟩,-⟩ := Qi HX8.out;go_wp2_with fail;clear H9;have HGN := Kl s.gone _ W8 (HT.out _ HB8.out) (HV.out.g.next HB8.out) HF.out.gl;have HR : Hid (X8 s.gone = res) := by
         unfold Hid;rw [← HC.out];simp [Qj,HZ.out,HP.out,HLT.out,HLK.out,HRS.out]
        generalize X8 s.gone = ge at HGN HR;refine HGN.mono ?_;rintro e V ⟨rfl,b⟩;clear c0 c1 c2 c3 c4 c5 c6 c7 c8 c9 c10 c11 c12 c13 c14 c15 c16 c17 c18 c19 c20 c21;go_wp2_with fail;go_ret;exact ⟨Q6 HR.out,HB8.out.trans (b.mono HB8.out.size)⟩
 | true =>
  by_cases hx : s.x = s.w - 1
  case neg =>
   have hxb : (s.x != s.w - 1) = true := by rw [bne_iff_ne];exact hx
   have HLT : Hid (Z6 s = true) := by unfold Hid Z6;rw [hl,decide_eq_false hx];rfl
   clear hx;refine (H3).mono ?_;rintro e W4 ⟨rfl,b⟩;have HX4 : Hid (W4.heap[w.heap.size]? = _) := Grd.carry HX3.out b;have HB4 : Hid (Below w.heap.size w W4) := HB3.out.trans (b.mono HB3.out.size);clear c0 c1 c2 c3 c4 c5 c6 c7 c8 c9 c10 c11 c12 c13 c14 c15 c16 c17 c18 c19 c20 c21 b;obtain ⟨⟨c0,c1,c2,c3,c4,c5,c6,c7,c8,c9,c10⟩,⟨c11,c12,c13,c14,c15,c16,c17,c18,c19,c20,c21⟩,-⟩ := Qi HX4.out;go_wp2_with fail;have HR : Hid (5 = res) := by
    unfold Hid;rw [← HC.out];simp [Qj,HZ.out,HP.out,HLT.out]
   clear c0 c1 c2 c3 c4 c5 c6 c7 c8 c9 c10 c11 c12 c13 c14 c15 c16 c17 c18 c19 c20 c21;go_wp2_with fail;go_ret;exact ⟨Q6 HR.out,HB4.out⟩
  have hxb : (s.x != s.w - 1) = false := by rw [bne_eq_false_iff_eq];exact hx
  by_cases hm4 : bits .and .i64 s.modes 4 = 0
  ·have hmb : (bits .and .i64 s.modes 4 == 0) = true := by rw [beq_iff_eq]; exact hm4
   have HLT : Hid (Z6 s = true) := by unfold Hid Z6;rw [hl,decide_eq_true hm4];simp
   clear hx hm4;refine (H3).mono ?_;rintro e W4 ⟨rfl,b⟩;have HX4 : Hid (W4.heap[w.heap.size]? = _) := Grd.carry HX3.out b;have HB4 : Hid (Below w.heap.size w W4) := HB3.out.trans (b.mono HB3.out.size);clear c0 c1 c2 c3 c4 c5 c6 c7 c8 c9 c10 c11 c12 c13 c14 c15 c16 c17 c18 c19 c20 c21 b;obtain ⟨⟨c0,c1,c2,c3,c4,c5,c6,c7,c8,c9,c10⟩,⟨c11,c12,c13,c14,c15,c16,c17,c18,c19,c20,c21⟩,-⟩ := Qi HX4.out;go_wp2_with fail;have HR : Hid (5 = res) := by
    unfold Hid;rw [← HC.out];simp [Qj,HZ.out,HP.out,HLT.out]
   clear c0 c1 c2 c3 c4 c5 c6 c7 c8 c9 c10 c11 c12 c13 c14 c15 c16 c17 c18 c19 c20 c21;go_wp2_with fail;go_ret;exact ⟨Q6 HR.out,HB4.out⟩
  ·have hmb4 : (bits .and .i64 s.modes 4 == 0) = false := by rw [beq_eq_false_iff_ne]; exact hm4
   have HLT : Hid (Z6 s = false) := by unfold Hid Z6;rw [hl,decide_eq_false hm4,decide_eq_true hx];rfl
   clear hx hm4;refine (H3).mono ?_;rintro e W4 ⟨rfl,b⟩;have HX4 : Hid (W4.heap[w.heap.size]? = _) := Grd.carry HX3.out b;have HB4 : Hid (Below w.heap.size w W4) := HB3.out.trans (b.mono HB3.out.size);clear c0 c1 c2 c3 c4 c5 c6 c7 c8 c9 c10 c11 c12 c13 c14 c15 c16 c17 c18 c19 c20 c21 b;obtain ⟨⟨c0,c1,c2,c3,c4,c5,c6,c7,c8,c9,c10⟩,⟨c11,c12,c13,c14,c15,c16,c17,c18,c19,c20,c21⟩,-⟩ := Qi HX4.out;go_wp2_with fail;clear H3 HRG
   cases h5 : Q5 (s.sf,s.sb,s.sx) with
   | false =>
    have H5 := Sty.Xd s.sf s.sb s.sx W4;rw [h5] at H5;refine (H5).mono ?_;rintro e W5 ⟨rfl,b⟩;have HX5 : Hid (W5.heap[w.heap.size]? = _) := Grd.carry HX4.out b;have HB5 : Hid (Below w.heap.size w W5) := HB4.out.trans (b.mono HB4.out.size);clear c0 c1 c2 c3 c4 c5 c6 c7 c8 c9 c10 c11 c12 c13 c14 c15 c16 c17 c18 c19 c20 c21 b;obtain ⟨⟨c0,c1,c2,c3,c4,c5,c6,c7,c8,c9,c10⟩,⟨c11,c12,c13,c14,c15,c16,c17,c18,c19,c20,c21⟩,-⟩ := Qi HX5.out;go_wp2_with fail;have HR : Hid (4 = res) := by
     unfold Hid;rw [← HC.out];simp [Qj,HZ.out,HP.out,HLT.out,Za,h5]
    clear c0 c1 c2 c3 c4 c5 c6 c7 c8 c9 c10 c11 c12 c13 c14 c15 c16 c17 c18 c19 c20 c21;go_wp2_with fail;go_ret;exact ⟨Q6 HR.out,HB5.out⟩
   | true =>
    have H5 := Sty.Xd s.sf s.sb s.sx W4;rw [h5] at H5;refine (H5).mono ?_;rintro e W5 ⟨rfl,b⟩;have HX5 : Hid (W5.heap[w.heap.size]? = _) := Grd.carry HX4.out b;have HB5 : Hid (Below w.heap.size w W5) := HB4.out.trans (b.mono HB4.out.size);clear c0 c1 c2 c3 c4 c5 c6 c7 c8 c9 c10 c11 c12 c13 c14 c15 c16 c17 c18 c19 c20 c21 b;obtain ⟨⟨c0,c1,c2,c3,c4,c5,c6,c7,c8,c9,c10⟩,⟨c11,c12,c13,c14,c15,c16,c17,c18,c19,c20,c21⟩,-⟩ := Qi HX5.out;go_wp2_with fail
    cases h6 : Q5 (s.kf,s.kb,s.kbits) with
    | false =>
     have H6 := Sty.Xd s.kf s.kb s.kbits W5;rw [h6] at H6;refine (H6).mono ?_;rintro e W6 ⟨rfl,b⟩;have HX6 : Hid (W6.heap[w.heap.size]? = _) := Grd.carry HX5.out b;have HB6 : Hid (Below w.heap.size w W6) := HB5.out.trans (b.mono HB5.out.size);clear c0 c1 c2 c3 c4 c5 c6 c7 c8 c9 c10 c11 c12 c13 c14 c15 c16 c17 c18 c19 c20 c21 b;obtain ⟨⟨c0,c1,c2,c3,c4,c5,c6,c7,c8,c9,c10⟩,⟨c11,c12,c13,c14,c15,c16,c17,c18,c19,c20,c21⟩,-⟩ := Qi HX6.out;go_wp2_with fail;have HR : Hid (4 = res) := by
      unfold Hid;rw [← HC.out];simp [Qj,HZ.out,HP.out,HLT.out,Za,h5,h6]
     clear c0 c1 c2 c3 c4 c5 c6 c7 c8 c9 c10 c11 c12 c13 c14 c15 c16 c17 c18 c19 c20 c21;go_wp2_with fail;go_ret;exact ⟨Q6 HR.out,HB6.out⟩
    | true =>
     have H6 := Sty.Xd s.kf s.kb s.kbits W5;rw [h6] at H6
     by_cases hm : 0 ≤ s.modes ∧ s.modes ≤ 63
     case neg =>
      have hmb : (bits .andNot .i64 s.modes 63 != 0) = true := by rw [bne_iff_ne];intro h;exact hm ((qaw _ HF.out.m0 HF.out.m1).1 h)
      refine (H6).mono ?_;rintro e W6 ⟨rfl,b⟩;have HX6 : Hid (W6.heap[w.heap.size]? = _) := Grd.carry HX5.out b;have HB6 : Hid (Below w.heap.size w W6) := HB5.out.trans (b.mono HB5.out.size);clear c0 c1 c2 c3 c4 c5 c6 c7 c8 c9 c10 c11 c12 c13 c14 c15 c16 c17 c18 c19 c20 c21 b;obtain ⟨⟨c0,c1,c2,c3,c4,c5,c6,c7,c8,c9,c10⟩,⟨c11,c12,c13,c14,c15,c16,c17,c18,c19,c20,c21⟩,-⟩ := Qi HX6.out;go_wp2_with fail;have HR : Hid (4 = res) := by
       unfold Hid;rw [← HC.out];simp [Qj,HZ.out,HP.out,HLT.out,Za,h5,h6,hm]
      clear c0 c1 c2 c3 c4 c5 c6 c7 c8 c9 c10 c11 c12 c13 c14 c15 c16 c17 c18 c19 c20 c21;go_wp2_with fail;go_ret;exact ⟨Q6 HR.out,HB6.out⟩
     have hmb : (bits .andNot .i64 s.modes 63 != 0) = false := by rw [bne_eq_false_iff_eq];exact (qaw _ HF.out.m0 HF.out.m1).2 hm
     cases h7 : K5 s.km with
     | false =>
      have hkb : (bits .andNot .i64 s.km 6 != 0) = true := by rw [bne_iff_ne];intro h;rw [(qfa _ HF.out.k0 HF.out.k1).1 h] at h7;cases h7
      refine (H6).mono ?_;rintro e W6 ⟨rfl,b⟩;have HX6 : Hid (W6.heap[w.heap.size]? = _) := Grd.carry HX5.out b;have HB6 : Hid (Below w.heap.size w W6) := HB5.out.trans (b.mono HB5.out.size);clear c0 c1 c2 c3 c4 c5 c6 c7 c8 c9 c10 c11 c12 c13 c14 c15 c16 c17 c18 c19 c20 c21 b;obtain ⟨⟨c0,c1,c2,c3,c4,c5,c6,c7,c8,c9,c10⟩,⟨c11,c12,c13,c14,c15,c16,c17,c18,c19,c20,c21⟩,-⟩ := Qi HX6.out;go_wp2_with fail;have HR : Hid (4 = res) := by
       unfold Hid;rw [← HC.out];simp [Qj,HZ.out,HP.out,HLT.out,Za,h5,h6,hm,h7]
      clear c0 c1 c2 c3 c4 c5 c6 c7 c8 c9 c10 c11 c12 c13 c14 c15 c16 c17 c18 c19 c20 c21;go_wp2_with fail;go_ret;exact ⟨Q6 HR.out,HB6.out⟩
     | true =>
      have hkb : (bits .andNot .i64 s.km 6 != 0) = false := by rw [bne_eq_false_iff_eq];exact (qfa _ HF.out.k0 HF.out.k1).2 h7
      have HLK : Hid (Za s = true) := by unfold Hid Za;simp [h5,h6,h7,hm]
      clear h5 h6 h7 hm;have htb := HF.out.bl
      by_cases t1 : (s.tabs.length : Int) = s.w
      case neg =>
       have t1b : ((s.tabs.length : Int) != s.w) = true := by rw [bne_iff_ne];exact t1
       have HT1 : Hid (¬ (s.tabs.length : Int) = s.w) := t1;clear t1;refine (H6).mono ?_;rintro e W6 ⟨rfl,b⟩;have HX6 : Hid (W6.heap[w.heap.size]? = _) := Grd.carry HX5.out b;have HB6 : Hid (Below w.heap.size w W6) := HB5.out.trans (b.mono HB5.out.size);clear c0 c1 c2 c3 c4 c5 c6 c7 c8 c9 c10 c11 c12 c13 c14 c15 c16 c17 c18 c19 c20 c21 b;obtain ⟨⟨c0,c1,c2,c3,c4,c5,c6,c7,c8,c9,c10⟩,⟨c11,c12,c13,c14,c15,c16,c17,c18,c19,c20,c21⟩,-⟩ := Qi HX6.out;go_wp2_with fail;have HR : Hid (5 = res) := by
        unfold Hid;rw [← HC.out];simp [Qj,HZ.out,HP.out,HLT.out,HLK.out,Xo,HT1.out]
       clear c0 c1 c2 c3 c4 c5 c6 c7 c8 c9 c10 c11 c12 c13 c14 c15 c16 c17 c18 c19 c20 c21;go_wp2_with fail;go_ret;exact ⟨Q6 HR.out,HB6.out⟩
      have t1b : ((s.tabs.length : Int) != s.w) = false := by rw [bne_eq_false_iff_eq];exact t1
      have HT1 : Hid ((s.tabs.length : Int) = s.w) := t1;clear t1
      by_cases l0 : s.last = 0
      ·have l0b : (s.last != 0) = false := by rw [bne_eq_false_iff_eq]; exact l0
       have HL0 : Hid ((decide (s.last = 0) || !decide (wd s.last = 0)) = true) := by unfold Hid;rw [decide_eq_true l0];rfl
       clear l0;refine (H6).mono ?_;rintro e W6 ⟨rfl,b⟩;have HX6 : Hid (W6.heap[w.heap.size]? = _) := Grd.carry HX5.out b;have HB6 : Hid (Below w.heap.size w W6) := HB5.out.trans (b.mono HB5.out.size);clear c0 c1 c2 c3 c4 c5 c6 c7 c8 c9 c10 c11 c12 c13 c14 c15 c16 c17 c18 c19 c20 c21 b;obtain ⟨⟨c0,c1,c2,c3,c4,c5,c6,c7,c8,c9,c10⟩,⟨c11,c12,c13,c14,c15,c16,c17,c18,c19,c20,c21⟩,-⟩ := Qi HX6.out;go_wp2_with fail;clear H5 H6
       cases h9 : J6 s.title with
       | false =>
        have H9 := Jp s.title W6 (HT.out _ HB6.out) HF.out.tl;rw [h9] at H9;refine (H9).mono ?_;rintro e W7 ⟨rfl,b⟩;have HX7 : Hid (W7.heap[w.heap.size]? = _) := Grd.carry HX6.out b;have HB7 : Hid (Below w.heap.size w W7) := HB6.out.trans (b.mono HB6.out.size);clear c0 c1 c2 c3 c4 c5 c6 c7 c8 c9 c10 c11 c12 c13 c14 c15 c16 c17 c18 c19 c20 c21 b;obtain ⟨⟨c0,c1,c2,c3,c4,c5,c6,c7,c8,c9,c10⟩,⟨c11,c12,c13,c14,c15,c16,c17,c18,c19,c20,c21⟩,-⟩ := Qi HX7.out;go_wp2_with fail;have HR : Hid (5 = res) := by
         unfold Hid;rw [← HC.out];simp [Qj,HZ.out,HP.out,HLT.out,HLK.out,Xo,h9]
        clear c0 c1 c2 c3 c4 c5 c6 c7 c8 c9 c10 c11 c12 c13 c14 c15 c16 c17 c18 c19 c20 c21;go_wp2_with fail;go_ret;exact ⟨Q6 HR.out,HB7.out⟩
       | true =>
        have H9 := Jp s.title W6 (HT.out _ HB6.out) HF.out.tl;rw [h9] at H9;have HRS : Hid (Xo s = true) := by unfold Hid Xo;simp [HL0.out,HT1.out,h9]
        clear h9;refine (H9).mono ?_;rintro e W7 ⟨rfl,b⟩;have HX7 : Hid (W7.heap[w.heap.size]? = _) := Grd.carry HX6.out b;have HB7 : Hid (Below w.heap.size w W7) := HB6.out.trans (b.mono HB6.out.size);clear c0 c1 c2 c3 c4 c5 c6 c7 c8 c9 c10 c11 c12 c13 c14 c15 c16 c17 c18 c19 c20 c21 b;obtain ⟨⟨c0,c1,c2,c3,c4,c5,c6,c7,c8,c9,c10⟩,⟨c11,c12,c13,c14,c15,c16,c17,c18,c19,c20,c21⟩,-⟩ := Qi HX7.out;go_wp2_with fail;clear H9;have HGN := Kl s.gone _ W7 (HT.out _ HB7.out) (HV.out.g.next HB7.out) HF.out.gl;have HR : Hid (X8 s.gone = res) := by
         unfold Hid;rw [← HC.out];simp [Qj,HZ.out,HP.out,HLT.out,HLK.out,HRS.out]
        generalize X8 s.gone = ge at HGN HR;refine HGN.mono ?_;rintro e V ⟨rfl,b⟩;clear c0 c1 c2 c3 c4 c5 c6 c7 c8 c9 c10 c11 c12 c13 c14 c15 c16 c17 c18 c19 c20 c21;go_wp2_with fail;go_ret;exact ⟨Q6 HR.out,HB7.out.trans (b.mono HB7.out.size)⟩
      ·have l0b : (s.last != 0) = true := by rw [bne_iff_ne]; exact l0
       have HL1 : Hid (¬ s.last = 0) := l0;clear l0
       by_cases l1 : wd s.last = 0
       ·have HL2 : Hid (wd s.last = 0) := l1
        clear l1;refine (H6).mono ?_;rintro e W6 ⟨rfl,b⟩;have HX6 : Hid (W6.heap[w.heap.size]? = _) := Grd.carry HX5.out b;have HB6 : Hid (Below w.heap.size w W6) := HB5.out.trans (b.mono HB5.out.size);clear c0 c1 c2 c3 c4 c5 c6 c7 c8 c9 c10 c11 c12 c13 c14 c15 c16 c17 c18 c19 c20 c21 b;obtain ⟨⟨c0,c1,c2,c3,c4,c5,c6,c7,c8,c9,c10⟩,⟨c11,c12,c13,c14,c15,c16,c17,c18,c19,c20,c21⟩,-⟩ := Qi HX6.out;go_wp2_with fail;have H8 := Grd.Yn s.last W6 (HT.out _ HB6.out) 0 HL2.out;refine (H8).mono ?_;rintro e W7 ⟨rfl,b⟩;have HX7 : Hid (W7.heap[w.heap.size]? = _) := Grd.carry HX6.out b;have HB7 : Hid (Below w.heap.size w W7) := HB6.out.trans (b.mono HB6.out.size);clear c0 c1 c2 c3 c4 c5 c6 c7 c8 c9 c10 c11 c12 c13 c14 c15 c16 c17 c18 c19 c20 c21 b;obtain ⟨⟨c0,c1,c2,c3,c4,c5,c6,c7,c8,c9,c10⟩,⟨c11,c12,c13,c14,c15,c16,c17,c18,c19,c20,c21⟩,-⟩ := Qi HX7.out;go_wp2_with fail;have HR : Hid (5 = res) := by
         unfold Hid;rw [← HC.out];simp [Qj,HZ.out,HP.out,HLT.out,HLK.out,Xo,HL1.out,HL2.out]
        clear c0 c1 c2 c3 c4 c5 c6 c7 c8 c9 c10 c11 c12 c13 c14 c15 c16 c17 c18 c19 c20 c21;go_wp2_with fail;go_ret;exact ⟨Q6 HR.out,HB7.out⟩
       ·have l1b : (wd s.last == 0) = false := by rw [beq_eq_false_iff_ne]; exact l1
        have HL0 : Hid ((decide (s.last = 0) || !decide (wd s.last = 0)) = true) := by unfold Hid;rw [decide_eq_false l1];simp
        clear l1;refine (H6).mono ?_;rintro e W6 ⟨rfl,b⟩;have HX6 : Hid (W6.heap[w.heap.size]? = _) := Grd.carry HX5.out b;have HB6 : Hid (Below w.heap.size w W6) := HB5.out.trans (b.mono HB5.out.size);clear c0 c1 c2 c3 c4 c5 c6 c7 c8 c9 c10 c11 c12 c13 c14 c15 c16 c17 c18 c19 c20 c21 b;obtain ⟨⟨c0,c1,c2,c3,c4,c5,c6,c7,c8,c9,c10⟩,⟨c11,c12,c13,c14,c15,c16,c17,c18,c19,c20,c21⟩,-⟩ := Qi HX6.out;go_wp2_with fail;have H8 := Grd.Yn s.last W6 (HT.out _ HB6.out) _ rfl;refine (H8).mono ?_;rintro e W7 ⟨rfl,b⟩;have HX7 : Hid (W7.heap[w.heap.size]? = _) := Grd.carry HX6.out b;have HB7 : Hid (Below w.heap.size w W7) := HB6.out.trans (b.mono HB6.out.size);clear c0 c1 c2 c3 c4 c5 c6 c7 c8 c9 c10 c11 c12 c13 c14 c15 c16 c17 c18 c19 c20 c21 b;obtain ⟨⟨c0,c1,c2,c3,c4,c5,c6,c7,c8,c9,c10⟩,⟨c11,c12,c13,c14,c15,c16,c17,c18,c19,c20,c21⟩,-⟩ := Qi HX7.out;go_wp2_with fail;clear H5 H6 H8
        cases h9 : J6 s.title with
        | false =>
         have H9 := Jp s.title W7 (HT.out _ HB7.out) HF.out.tl;rw [h9] at H9;refine (H9).mono ?_;rintro e W8 ⟨rfl,b⟩;have HX8 : Hid (W8.heap[w.heap.size]? = _) := Grd.carry HX7.out b;have HB8 : Hid (Below w.heap.size w W8) := HB7.out.trans (b.mono HB7.out.size);clear c0 c1 c2 c3 c4 c5 c6 c7 c8 c9 c10 c11 c12 c13 c14 c15 c16 c17 c18 c19 c20 c21 b;obtain ⟨⟨c0,c1,c2,c3,c4,c5,c6,c7,c8,c9,c10⟩,⟨c11,c12,c13,c14,c15,c16,c17,c18,c19,c20,c21⟩,-⟩ := Qi HX8.out;go_wp2_with fail;have HR : Hid (5 = res) := by
          unfold Hid;rw [← HC.out];simp [Qj,HZ.out,HP.out,HLT.out,HLK.out,Xo,h9]
         clear c0 c1 c2 c3 c4 c5 c6 c7 c8 c9 c10 c11 c12 c13 c14 c15 c16 c17 c18 c19 c20 c21;go_wp2_with fail;go_ret;exact ⟨Q6 HR.out,HB8.out⟩
        | true =>
         have H9 := Jp s.title W7 (HT.out _ HB7.out) HF.out.tl;rw [h9] at H9;have HRS : Hid (Xo s = true) := by unfold Hid Xo;simp [HL0.out,HT1.out,h9]
         clear h9;refine (H9).mono ?_;rintro e W8 ⟨rfl,b⟩;have HX8 : Hid (W8.heap[w.heap.size]? = _) := Grd.carry HX7.out b;have HB8 : Hid (Below w.heap.size w W8) := HB7.out.trans (b.mono HB7.out.size);clear c0 c1 c2 c3 c4 c5 c6 c7 c8 c9 c10 c11 c12 c13 c14 c15 c16 c17 c18 c19 c20 c21 b;obtain ⟨⟨c0,c1,c2,c3,c4,c5,c6,c7,c8,c9,c10⟩,⟨c11,c12,c13,c14,c15,c16,c17,c18,c19,c20,c21⟩,-⟩ := Qi HX8.out;go_wp2_with fail;clear H9;have HGN := Kl s.gone _ W8 (HT.out _ HB8.out) (HV.out.g.next HB8.out) HF.out.gl;have HR : Hid (X8 s.gone = res) := by
          unfold Hid;rw [← HC.out];simp [Qj,HZ.out,HP.out,HLT.out,HLK.out,HRS.out]
         generalize X8 s.gone = ge at HGN HR;refine HGN.mono ?_;rintro e V ⟨rfl,b⟩;clear c0 c1 c2 c3 c4 c5 c6 c7 c8 c9 c10 c11 c12 c13 c14 c15 c16 c17 c18 c19 c20 c21;go_wp2_with fail;go_ret;exact ⟨Q6 HR.out,HB8.out.trans (b.mono HB8.out.size)⟩
end Put
namespace Put
open Grd (C SliceAt Qb Qf z0 Q0)
def shA (s : Scr) (cv tv gv rv : Value) : Array Value := #[.int .i64 s.w,.int .i64 s.h,cv,.int .i64 s.x,.int .i64 s.y,.bool s.late,.int .i64 s.sf,.int .i64 s.sb,.int .i64 s.sx,.int .i64 s.top,.int .i64 s.bot,.int .i64 s.modes,tv,.int .i64 s.kx,.int .i64 s.ky,.int .i64 s.kf,.int .i64 s.kb,.int .i64 s.kbits,.int .i64 s.km,.int .i32 s.last,.string s.title,gv,rv]
theorem Qc {W : World} {k : Nat} {o : Obj} (h : W.heap[k]? = some o) : k < W.heap.size := by
 rcases Nat.lt_or_ge k W.heap.size with h' | h'
 ·exact h'
 ·rw [Array.getElem?_eq_none h'] at h
  cases h
def Still (W : World) (N k : Nat) : Prop := k < N ∨ ∃ A f,W.heap[k]? = some (.cells A 56 f)
def X3 (W : World) (N : Nat) (v : Value) (row : List C) : Prop :=
 (row = [] ∧ ∃ a c,v = .slice a 0 c) ∨ (row ≠ [] ∧ ∃ b o c,v = .slice (some ⟨b,o,none⟩) row.length c ∧ row.length ≤ c ∧ c ≤ 9223372036854775807 ∧ Qb W b o row ∧ Still W N b)
theorem X3.cells {W : World} {N : Nat} {v : Value} {row : List C} (h : X3 W N v row) : SliceAt W v row := by
 rcases h with h | ⟨h,b,o,c,hv,h1,h2,h3,-⟩
 ·exact .inl h
 ·exact .inr ⟨h,b,o,c,hv,h1,h2,h3⟩
theorem qaj {W : World} {b o : Nat} {row : List C} (h : Qb W b o row) (hr : row ≠ []) : b < W.heap.size := by
 have h0 : 0 < row.length := List.length_pos_iff.2 hr;obtain ⟨h1,-⟩ := h 0 h0;exact World.block_lt_of_cell? W _ h1
theorem X3.of {W : World} {N : Nat} {v : Value} {row : List C} (h : SliceAt W v row) (hN : N = W.heap.size) : X3 W N v row := by
 rcases h with h | ⟨h,b,o,c,hv,h1,h2,h3⟩
 ·exact .inl h
 ·exact .inr ⟨h,b,o,c,hv,h1,h2,h3,.inl (by rw [hN];exact qaj h3 h)⟩
theorem X3.shape {W : World} {N : Nat} {v : Value} {row : List C} (h : X3 W N v row) : ∃ a c,v = .slice a row.length c := h.cells.shape
def Kept (N : Nat) (W W' : World) : Prop := ∀ k,k < W.heap.size → Still W N k → W'.heap[k]? = W.heap[k]?
theorem Still.keep {W W' : World} {N k : Nat} (h : Still W N k) (hk : W'.heap[k]? = W.heap[k]?) : Still W' N k := by
 rcases h with h | ⟨A,f,h⟩
 ·exact .inl h
 ·exact .inr ⟨A,f,hk.trans h⟩
theorem Kept.of_below {N : Nat} {W W' : World} (h : Below W.heap.size W W') : Kept N W W' := fun k hk _ => h.block k hk
theorem qpq {W W' : World} {b o : Nat} {row : List C} (h : Qb W b o row) (hk : W'.heap[b]? = W.heap[b]?) : Qb W' b o row := fun j hj => by
 obtain ⟨h0,h1,h2,h3⟩ := h j hj;have e : ∀ i,W'.cell? ⟨b,i,none⟩ = W.cell? ⟨b,i,none⟩ := fun i => by simp [World.cell?,hk]
 exact ⟨(e _).trans h0,(e _).trans h1,(e _).trans h2,(e _).trans h3⟩
theorem X3.keep {W W' : World} {N : Nat} {v : Value} {row : List C} (h : X3 W N v row) (hk : Kept N W W') : X3 W' N v row := by
 rcases h with h | ⟨h,b,o,c,hv,h1,h2,h3,h4⟩
 ·exact .inl h
 ·have hb := hk b (qaj h3 h) h4
  exact .inr ⟨h,b,o,c,hv,h1,h2,qpq h3 hb,h4.keep hb⟩
def RowsIn (W : World) (N : Nat) (vs : List Value) (rows : List (List C)) : Prop := vs.length = rows.length ∧ ∀ i,i < rows.length → X3 W N (vs.getD i Q0) (rows.getD i [])
theorem RowsIn.keep {W W' : World} {N : Nat} {vs : List Value} {rows : List (List C)} (h : RowsIn W N vs rows) (hk : Kept N W W') : RowsIn W' N vs rows := ⟨h.1,fun i hi => (h.2 i hi).keep hk⟩
theorem RowsIn.list {W : World} {N : Nat} {vs : List Value} {rows : List (List C)} (h : RowsIn W N vs rows) : qai W vs rows := ⟨h.1,fun i hi => (h.2 i hi).cells⟩
theorem RowsIn.of {W : World} {N : Nat} {vs : List Value} {rows : List (List C)} (h : qai W vs rows) (hN : N = W.heap.size) : RowsIn W N vs rows := ⟨h.1,fun i hi => X3.of (h.2 i hi) hN⟩
theorem Ze {w w' : World} {base : Nat} {e : TypeId} {size : Nat} {v : Value} {n : Nat} {xs : List Value} (h : w.ownsRow base e size v n xs) (hk : ∀ g,v.ownBlock = some g → w'.heap[g]? = w.heap[g]?) : w'.ownsRow base e size v n xs := by
 obtain ⟨h0,h | ⟨g,cap,cur,hv,hg,hh,hc,hm,hs,htk⟩⟩ := h
 ·exact ⟨h0,.inl h⟩
 ·exact ⟨h0,.inr ⟨g,cap,cur,hv,hg,(hk g (by rw [hv];rfl)).trans hh,hc,hm,hs,htk⟩⟩
theorem Qn {w : World} {base : Nat} {e : TypeId} {size : Nat} {v : Value} {n : Nat} {xs : List Value} (h : w.ownsRow base e size v n xs) : ∀ g,v.ownBlock = some g → base ≤ g ∧ ∃ A f,w.heap[g]? = some (.cells A e f) := by
 intro g hg;obtain ⟨h0,h | ⟨g',cap,cur,hv,hb,hh,hc,hm,hs,htk⟩⟩ := h
 ·rw [h.1] at hg
  cases hg
 ·rw [hv] at hg
  have e : g' = g := by simpa [Value.ownBlock] using hg
  subst e;exact ⟨hb,_,_,hh⟩
structure ShA (t : TypeId) (W : World) (M N p : Nat) (s : Scr) (rows : List (List C)) (cv tv gv rv : Value) (gvs vs : List Value) : Prop where
 blk : W.heap[p]? = some (.cells (shA s cv tv gv rv) t (0,0))
 lo : N ≤ p
 ml : M ≤ N
 cvs : ∃ a n c,cv = .slice a n c
 tabs : W.ownsRow N 4 1 tv s.tabs.length (s.tabs.map Value.bool)
 gone : W.ownsRow N 22 1 gv s.gone.length gvs
 gin : RowsIn W M gvs s.gone
 rws : W.ownsRow N 22 1 rv rows.length vs
 rin : RowsIn W M vs rows
 two : ∀ k,rv.ownBlock = some k → gv.ownBlock ≠ some k
def X6 (t : TypeId) : Prop := t ≠ 4 ∧ t ≠ 22 ∧ t ≠ 56
theorem ShA.put {t : TypeId} (ht : X6 t) {W W' : World} {M N p : Nat} {s s' : Scr} {rows : List (List C)} {cv tv gv rv : Value} {gvs vs : List Value} (h : ShA t W M N p s rows cv tv gv rv gvs vs)
  (hp : W'.heap[p]? = some (.cells (shA s' cv tv gv rv) t (0,0))) (ho : ∀ k,k ≠ p → W'.heap[k]? = W.heap[k]?) (htabs : s'.tabs = s.tabs) (hgone : s'.gone = s.gone) : ShA t W' M N p s' rows cv tv gv rv gvs vs := by
 have hne : ∀ {e : TypeId} {v : Value} {n : Nat} {xs : List Value},t ≠ e → W.ownsRow N e 1 v n xs → ∀ g,v.ownBlock = some g → W'.heap[g]? = W.heap[g]? := fun hte hw g hg => by
  obtain ⟨-,A,f,hA⟩ := Qn hw g hg;refine ho g fun e => ?_
  subst e;rw [h.blk] at hA;injection hA with hA
  injection hA with _ hA _
  exact hte hA
 have hk : Kept M W W' := fun k hk hS => by
  refine ho k fun e => ?_
  subst e
  rcases hS with hS | ⟨A,f,hS⟩
  ·have := h.lo
   have := h.ml;omega
  ·rw [h.blk] at hS
   injection hS with hS
   injection hS with _ hS _
   exact ht.2.2 hS
 refine ⟨hp,h.lo,h.ml,h.cvs,?_,?_,?_,Ze h.rws (hne ht.2.1 h.rws),h.rin.keep hk,h.two⟩
 ·rw [htabs]
  exact Ze h.tabs (hne ht.1 h.tabs)
 ·rw [hgone]
  exact Ze h.gone (hne ht.2.1 h.gone)
 ·rw [hgone]
  exact h.gin.keep hk
theorem ShA.next {t : TypeId} {W W' : World} {M N p : Nat} {s : Scr} {rows : List (List C)} {cv tv gv rv : Value} {gvs vs : List Value} (h : ShA t W M N p s rows cv tv gv rv gvs vs) (hb : Below W.heap.size W W') : ShA t W' M N p s rows cv tv gv rv gvs vs := by
 have hk : ∀ {e : TypeId} {v : Value} {n : Nat} {xs : List Value},W.ownsRow N e 1 v n xs → W'.ownsRow N e 1 v n xs := fun hw => Ze hw fun g hg => by
  obtain ⟨-,A,f,hA⟩ := Qn hw g hg;exact hb.block g (Qc hA)
 exact ⟨(hb.block p (Qc h.blk)).trans h.blk,h.lo,h.ml,h.cvs,hk h.tabs,hk h.gone,h.gin.keep (Kept.of_below hb),hk h.rws,h.rin.keep (Kept.of_below hb),h.two⟩
def ShAt (t : TypeId) (W : World) (M N p : Nat) (s : Scr) (rows : List (List C)) : Prop := ∃ cv tv gv rv gvs vs,ShA t W M N p s rows cv tv gv rv gvs vs
theorem Qp : X6 110 := by unfold X6;decide
theorem qzw {W : World} {R : Nat} {t : TypeId} {v0 v1 v2 v3 v4 v5 v6 v7 v8 v9 v10 v11 v12 v13 v14 v15 v16 v17 v18 v19 v20 v21 v22 : Value} (h : W.heap[R]? = some (.cells #[v0, v1, v2, v3, v4, v5, v6, v7, v8, v9, v10, v11, v12, v13, v14, v15, v16, v17, v18, v19, v20, v21, v22] t (0, 0))) :
  (W.cell? ⟨R,0,none⟩ = some v0 ∧ W.cell? ⟨R,1,none⟩ = some v1 ∧ W.cell? ⟨R,2,none⟩ = some v2 ∧ W.cell? ⟨R,3,none⟩ = some v3 ∧ W.cell? ⟨R,4,none⟩ = some v4 ∧ W.cell? ⟨R,5,none⟩ = some v5 ∧ W.cell? ⟨R,6,none⟩ = some v6 ∧ W.cell? ⟨R,7,none⟩ = some v7 ∧ W.cell? ⟨R,8,none⟩ = some v8 ∧ W.cell? ⟨R,9,none⟩ = some v9 ∧ W.cell? ⟨R,10,none⟩ = some v10) ∧
  (W.cell? ⟨R,11,none⟩ = some v11 ∧ W.cell? ⟨R,12,none⟩ = some v12 ∧ W.cell? ⟨R,13,none⟩ = some v13 ∧ W.cell? ⟨R,14,none⟩ = some v14 ∧ W.cell? ⟨R,15,none⟩ = some v15 ∧ W.cell? ⟨R,16,none⟩ = some v16 ∧ W.cell? ⟨R,17,none⟩ = some v17 ∧ W.cell? ⟨R,18,none⟩ = some v18 ∧ W.cell? ⟨R,19,none⟩ = some v19 ∧ W.cell? ⟨R,20,none⟩ = some v20 ∧ W.cell? ⟨R,21,none⟩ = some v21 ∧ W.cell? ⟨R,22,none⟩ = some v22) ∧ ∀ i,W.frozen? ⟨R,i,none⟩ = false := by
 refine ⟨?_,?_,fun i => by simp [World.frozen?,h]⟩ <;> simp [World.cell?,h]
theorem Qr {W : World} {R : Nat} {t : TypeId} {s : Scr} {cv tv gv rv : Value} (h : W.heap[R]? = some (.cells (shA s cv tv gv rv) t (0, 0))) :
  (W.cell? ⟨R,0,none⟩ = some (.int .i64 s.w) ∧ W.cell? ⟨R,1,none⟩ = some (.int .i64 s.h) ∧ W.cell? ⟨R,2,none⟩ = some (cv) ∧ W.cell? ⟨R,3,none⟩ = some (.int .i64 s.x) ∧ W.cell? ⟨R,4,none⟩ = some (.int .i64 s.y) ∧ W.cell? ⟨R,5,none⟩ = some (.bool s.late) ∧ W.cell? ⟨R,6,none⟩ = some (.int .i64 s.sf) ∧ W.cell? ⟨R,7,none⟩ = some (.int .i64 s.sb) ∧ W.cell? ⟨R,8,none⟩ = some (.int .i64 s.sx) ∧ W.cell? ⟨R,9,none⟩ = some (.int .i64 s.top) ∧ W.cell? ⟨R,10,none⟩ = some (.int .i64 s.bot)) ∧
  (W.cell? ⟨R,11,none⟩ = some (.int .i64 s.modes) ∧ W.cell? ⟨R,12,none⟩ = some (tv) ∧ W.cell? ⟨R,13,none⟩ = some (.int .i64 s.kx) ∧ W.cell? ⟨R,14,none⟩ = some (.int .i64 s.ky) ∧ W.cell? ⟨R,15,none⟩ = some (.int .i64 s.kf) ∧ W.cell? ⟨R,16,none⟩ = some (.int .i64 s.kb) ∧ W.cell? ⟨R,17,none⟩ = some (.int .i64 s.kbits) ∧ W.cell? ⟨R,18,none⟩ = some (.int .i64 s.km) ∧ W.cell? ⟨R,19,none⟩ = some (.int .i32 s.last) ∧ W.cell? ⟨R,20,none⟩ = some (.string s.title) ∧ W.cell? ⟨R,21,none⟩ = some (gv) ∧ W.cell? ⟨R,22,none⟩ = some (rv)) ∧ ∀ i,W.frozen? ⟨R,i,none⟩ = false := qzw h
end Put
open Go.RowKit Go.Shelf
namespace Put
attribute [local go_sem] Oper.semAt_some
def Ke (b o n k : Nat) : Value := .slice (some ⟨b,o + k * n * 4,none⟩) n n
theorem minP (a b : Int) (w : World) : (Builtin.min_ #[3,3] 3 #[.int .i64 a,.int .i64 b]).run qP w = .ok (.int .i64 (min a b)) w := by
 simp [Builtin.min_,Builtin.min2,go_sem]
 repeat' split
 all_goals omega
theorem quc (F : Fence) (q : Nat) (hf : F.fn 170) (hro : F.round = none) (hq : 1 ≤ q) (l Bs Bn n₀ b o n hh cap : Nat) (hn : 1 ≤ n) (hn' : n ≤ 1000) (hh' : hh ≤ 1000) (hcap : n * hh ≤ cap) (J Jx : List Nat → World → Prop)
  (hY : ∀ pre x W, J pre W → pre.length < hh → YieldAt F (q - 1) qP l #[Ke b o n x] W fun e W' =>
   (e = .returned (.bool true) ∧ J (pre ++ [x]) W' ∧ Below n₀ W W') ∨ (e = .returned (.bool false) ∧ Jx (pre ++ [x]) W'))
  (W : World) (hBs : Bs < n₀) (hBn : Bn < n₀) (hs : W.cell? ⟨Bs,0,none⟩ = some (.slice (some ⟨b,o,none⟩) (n * hh) cap)) (hc : W.cell? ⟨Bn,0,none⟩ = some (.int .i64 (n : Int))) (hJ : AbidesFrom W.heap.size J) (h0 : J [] W) :
  CallsIn F q qP 170 #[.func (.yield l) #[] #[], .pointer (some ⟨Bs, 0, none⟩), .pointer (some ⟨Bn, 0, none⟩)] W fun e W' => (∃ v, e = .returned v) ∧
   ((∃ ys,ys = List.range hh ∧ J ys W') ∨ (∃ pre,True ∧ Jx pre W')) := by
 refine callsIn_of_wp Tryz.func170 rfl hf ?_ hro;simp only [Tryz.ntmps170,List.size_toArray,List.length_cons,List.length_nil,Nat.reduceAdd,Nat.reduceSub,Array.replicate_succ,Array.replicate_zero,List.push_toArray,List.append_toArray,List.nil_append,List.cons_append]
 gi_wp2
 gi_loopw [4] (fun i wr => ∃ k : Nat, k ≤ hh ∧ i = .int .i64 ((k * n : Nat) : Int) ∧ J (List.range k) wr ∧ Below n₀ W wr)
  (fun i _ => hh * n - (intOf i).toNat)
 case atStart => exact ⟨0,Nat.zero_le _,by simp,h0,qr _ _⟩
 case round =>
  obtain ⟨k,hk,rfl,hJs,hnx⟩ := hrel;have cs : ∀ m,(wr.drewN m).cell? ⟨Bs,0,none⟩ = some (.slice (some ⟨b,o,none⟩) (n * hh) cap) := fun m => (hnx.cell (p := ⟨Bs,0,none⟩) hBs).trans hs
  have cn : ∀ m,(wr.drewN m).cell? ⟨Bn,0,none⟩ = some (.int .i64 (n : Int)) := fun m => (hnx.cell (p := ⟨Bn,0,none⟩) hBn).trans hc
  have cs0 := cs 0;have cn0 := cn 0;simp only [World.drewN_zero] at cs0 cn0;have hmin := minP (n : Int)
  by_cases hlt : k < hh
  ·have hJd : ∀ m, J (List.range k) (wr.drewN m) := fun m => hJ _ wr _ none hJs ⟨rfl, rfl, rfl, qd _, fun _ _ _ => rfl⟩ (fun r e => by cases e)
   have hYk := fun m => hY _ k (wr.drewN m) (hJd m) (by simpa using hlt)
   unfold Ke at hYk;have HN : Hid (List.range (k + 1) = List.range k ++ [k]) := List.range_succ;have l1 : k * n + n ≤ n * hh := by
    have : (k + 1) * n ≤ hh * n := Nat.mul_le_mul_right n hlt;rw [Nat.mul_comm n hh];rw [Nat.add_mul] at this;omega
   have l2 : n * hh ≤ 1000000 := by
    have : n * hh ≤ 1000 * 1000 := Nat.mul_le_mul hn' hh';omega
   have HNX : Hid ((((k + 1) * n : Nat) : Int) = ((k * n : Nat) : Int) + (n : Int)) := by unfold Hid;rw [Nat.add_mul];omega
   have HM : Hid (hh * n - (k + 1) * n < hh * n - k * n) := by
    unfold Hid;have : hh * n = n * hh := Nat.mul_comm _ _;rw [Nat.add_mul];omega
   clear hY hs hc h0 hJ hJs;generalize n * hh = L at *;generalize hK : k * n = K at *;have HK : Hid (k * n = K) := hK;clear hK;have lt1 : ((K : Nat) : Int) < (L : Int) := by omega
   have hKL : K ≤ L := by omega
   have hcK : ¬ cap = K := by omega
   have hm1 : min (n : Int) ((L - K : Nat) : Int) = (n : Int) := by omega
   gi_wp2
   refine wpIn_region_quiet_lit hro (by kernel_rfl) (by kernel_rfl) ?_
   repeat (gi_big_quiet_step (fail))
   refine wpQuietIn_nil ?_;intro _ hw';obtain ⟨nq,hw''⟩ := hw';subst hw'';obtain ⟨fn,tmps,assign,body,hy,hR⟩ := hYk nq;have cs1 := cs nq;have cn1 := cn nq;have hnq : Below n₀ W (wr.drewN nq) := hnx.trans ⟨rfl,rfl,rfl,qd _,fun _ _ => rfl⟩
   have HHN : Hid (Below n₀ W (wr.drewN nq)) := hnq;clear hYk cs cn hJd cs0 cn0 hnq;generalize wr.drewN nq = V at *
   gi_wp2
   refine hR.mono ?_;rintro e W3 (⟨rfl,hJ3,hk3⟩ | ⟨rfl,hJx3⟩)
   ·have cs3 : W3.cell? ⟨Bs, 0, none⟩ = _ := (hk3.cell (p := ⟨Bs, 0, none⟩) hBs).trans cs1
    have cn3 : W3.cell? ⟨Bn,0,none⟩ = _ := (hk3.cell (p := ⟨Bn,0,none⟩) hBn).trans cn1;clear cs1 cn1
    gi_wp2
    go_roundw
    case rel => exact ⟨k + 1,by omega,by rw [HNX.out],by rw [HN.out];exact hJ3,HHN.out.trans hk3⟩
    case measure =>
     have h := HM.out;simp [intOf];omega
   ·gi_wp2
    refine bodyPost_ret (results_none rfl _ _ _) rfl ?_;exact ⟨⟨_,rfl⟩,.inr (by first | exact ⟨_,hJx3⟩ | exact ⟨_,trivial,hJx3⟩)⟩
  ·obtain rfl : k = hh := by omega
   have l1 : ¬ ((k * n : Nat) : Int) < ((n * k : Nat) : Int) := by rw [Nat.mul_comm n k];omega
   gi_wp2
   go_end0;exact ⟨⟨_,rfl⟩,.inl (by first | exact hJs | exact ⟨_,rfl,hJs⟩)⟩
theorem qms (F : Fence) (q : Nat) (hf : F.fn 170) (hro : F.round = none) (hq : 1 ≤ q) (Bs Bn n₀ b o n hh cap : Nat) (hn : 1 ≤ n) (hn' : n ≤ 1000) (hh' : hh ≤ 1000) (hcap : n * hh ≤ cap) (w : World) (hBs : Bs < n₀) (hBn : Bn < n₀) (hn₀ : n₀ ≤ w.heap.size)
  (hs : w.cell? ⟨Bs,0,none⟩ = some (.slice (some ⟨b,o,none⟩) (n * hh) cap)) (hc : w.cell? ⟨Bn,0,none⟩ = some (.int .i64 (n : Int))) :
  SeqStopsK F q qP 170 #[.pointer (some ⟨Bs,0,none⟩),.pointer (some ⟨Bn,0,none⟩)] (fun x : Nat => #[Ke b o n x]) (Below n₀) (fun ys => ys = List.range hh) (fun _ => True) hh w := fun l J Jx W hW hJ _ hY h0 =>
 quc F q hf hro hq l Bs Bn n₀ b o n hh cap hn hn' hh' hcap J Jx hY W hBs hBn ((hW.cell (p := ⟨Bs,0,none⟩) (by show Bs < _;omega)).trans hs) ((hW.cell (p := ⟨Bn,0,none⟩) (by show Bn < _;omega)).trans hc) hJ h0
theorem qwi : (Tryz.prog.info? 22).map (fun i => (i.zero,i.size,i.bytes)) = some (some (.slice none 0 0),1,24) := by kernel_rfl
theorem appendSeq_in (F : Fence) (q : Nat) (hfa : F.fn 169) (hf : F.fn 170) (hro : F.round = none) (hq : 3 ≤ q) (Bs Bn b o n hh cap : Nat) (hn : 1 ≤ n) (hn' : n ≤ 1000) (hh' : hh ≤ 1000) (hcap : n * hh ≤ cap) (w : World) (hBs : Bs < w.heap.size) (hBn : Bn < w.heap.size)
  (hs : w.cell? ⟨Bs,0,none⟩ = some (.slice (some ⟨b,o,none⟩) (n * hh) cap)) (hc : w.cell? ⟨Bn,0,none⟩ = some (.int .i64 (n : Int))) :
  CallsIn F q qP 169 #[.slice none 0 0,.func (.func 170) #[] #[.pointer (some ⟨Bs,0,none⟩),.pointer (some ⟨Bn,0,none⟩)]] w fun e W' => ∃ v,e = .returned v ∧ W'.ownsRow w.heap.size 22 1 v hh ((List.range hh).map (Ke b o n)) ∧ Below w.heap.size w W' := by
 have h1 : 1 ≤ q := by omega
 obtain ⟨i0,hi,hz0,hz1,hz2⟩ := info_parts qwi;refine callsIn_of_wp_marks Tryz.func169 rfl hfa ?_ hro;simp only [Tryz.ntmps169,List.size_toArray,List.length_cons,List.length_nil,Nat.reduceAdd,Nat.reduceSub,Array.replicate_succ,Array.replicate_zero,List.push_toArray,List.append_toArray,List.nil_append,List.cons_append]
 gi_wp2
 have bO := Boxed.new w 30 (.slice none 0 0);have hB0 : Below w.heap.size w (w.alloc (.cells #[.slice none 0 0] 30)) := (qr _ w).alloc (qd _) _
 refine wpIn_rangeFunc_ownG hro h1 (gf := 170) (lb := #[.pointer (some ⟨Bs, 0, none⟩), .pointer (some ⟨Bn, 0, none⟩)]) rfl hf (enters_of Tryz.func170 (by kernel_rfl) rfl)
  (qms F (q - 1) hf hro (by omega) Bs Bn w.heap.size b o n hh cap hn hn' hh' hcap _ hBs hBn (by simp) ((hB0.cell (p := ⟨Bs,0,none⟩) hBs).trans hs) ((hB0.cell (p := ⟨Bn,0,none⟩) hBn).trans hc)) belowK_t (belowK_b (by simp)) (qr _ _) (fun _ => rfl)
  (fun pre W => (∃ v,Boxed W w.heap.size 30 v ∧ W.ownsRow w.heap.size 22 1 v pre.length (pre.map (Ke b o n)) ∧ (v = .slice none 0 0 ↔ pre = [])) ∧ Below w.heap.size w W)
  (fun _ _ _ => False)
  (OwnFrom.and (Own.from (holdsRow_own w.heap.size w.heap.size 30 22 1 (fun pre : List Nat => pre.length) (fun pre => pre.map (Ke b o n)) (fun pre v => v = .slice none 0 0 ↔ pre = [])) _) (ownFrom_below (qd _) (by simp)))
  (fun _ _ _ _ _ hs _ _ => hs)
  ⟨⟨_,bO,World.ownsRow_nil _ _ _ _,by simp⟩,hB0⟩
  (fun x => { tmps := #[.slice none 0 0,.func (.func 170) #[] #[.pointer (some ⟨Bs,0,none⟩),.pointer (some ⟨Bn,0,none⟩)],.pointer (some ⟨w.heap.size,0,none⟩),undef,.slice none 0 0,Ke b o n x,.func (.func 170) #[] #[.pointer (some ⟨Bs,0,none⟩),.pointer (some ⟨Bn,0,none⟩)],Ke b o n x,undef,undef,undef,undef,undef],defers := [] }) ?assign ?body ?done ?stop
 case assign =>
  intro l x W K hK
  gi_wp2
  exact hK
 case body =>
  rintro l pre x W ⟨⟨v,hv,hrow,hnil⟩,hB⟩ hlt;have hc := hv.cell;unfold Ke
  gi_wp2_with (gi_at_builtin;refine wpListIn_append_own _ rfl _ _ 30 rfl w.heap.size 22 i0 (.slice none 0 0) 1 24 Tryz.underlying30 hi hz0 hz1 hz2 rfl (by decide) _ _ _ rfl (hrow.alloc _) ⟨W.heap.size,0,none⟩ 1 1 [Ke b o n x] rfl rfl (cell_one_new _ _ _) (by simp [Value.oneCell',Ke]) (by simp [maxLen];omega) (by omega) (by have := hB.size;simp;omega) ?_;intro v' w1 hown' hgrow _;obtain ⟨g',cap',rfl⟩ := ownsRow_succ hown';obtain ⟨hv1,hv2,hr2,hk2,hb2⟩ := hv.appended (by decide) hrow hB.size (qd _) hown' hgrow;have hc1 := hv1.cell;have hf1 := hv1.frozen)
  exact ⟨hk2.from _,hb2,⟨_,hv2,by rw [List.length_append,List.map_append];exact hr2,by simp⟩,hB.trans hb2⟩
 case done =>
  rintro D ys W hD rfl ⟨⟨v,hv,hrow,hnil⟩,hB⟩ hK;have hc := hv.cell;rw [List.length_range] at hrow
  gi_wp2
  refine ⟨by simp,.inl ⟨_,_,rfl,run_takeDeferred hK,?_⟩⟩
  exact ⟨_,results_tmp rfl _ _ _,v,rfl,ownsRow_putObj hrow _ hK rfl,hB.trans (belowK_b (w := w) (qd _) W D _ _ (by simp at hD;omega) hK rfl rfl)⟩
 case stop =>
  rintro D c pre W _ _ h _;exact h.elim
theorem qh0 (Bs Bn b o n hh cap : Nat) (hn : 1 ≤ n) (hn' : n ≤ 1000) (hh' : hh ≤ 1000) (hcap : n * hh ≤ cap) (w : World) (hBs : Bs < w.heap.size) (hBn : Bn < w.heap.size)
  (hs : w.cell? ⟨Bs,0,none⟩ = some (.slice (some ⟨b,o,none⟩) (n * hh) cap)) (hc : w.cell? ⟨Bn,0,none⟩ = some (.int .i64 (n : Int))) :
  Calls qP 169 #[.slice none 0 0,.func (.func 170) #[] #[.pointer (some ⟨Bs,0,none⟩),.pointer (some ⟨Bn,0,none⟩)]] w fun e W' => ∃ v,e = .returned v ∧ W'.ownsRow w.heap.size 22 1 v hh ((List.range hh).map (Ke b o n)) ∧ Below w.heap.size w W' :=
 (callsIn_wide (n := 3)).1 (appendSeq_in Fence.wide 3 trivial trivial rfl (by omega) Bs Bn b o n hh cap hn hn' hh' hcap w hBs hBn hs hc)
theorem qee (Bs Bn b o n hh cap : Nat) (hn : 1 ≤ n) (hn' : n ≤ 1000) (hh' : hh ≤ 1000) (hcap : n * hh ≤ cap) (w : World) (hBs : Bs < w.heap.size) (hBn : Bn < w.heap.size)
  (hs : w.cell? ⟨Bs,0,none⟩ = some (.slice (some ⟨b,o,none⟩) (n * hh) cap)) (hc : w.cell? ⟨Bn,0,none⟩ = some (.int .i64 (n : Int))) :
  Calls qP 106 #[.func (.func 170) #[] #[.pointer (some ⟨Bs,0,none⟩),.pointer (some ⟨Bn,0,none⟩)]] w fun e W' => ∃ v,e = .returned v ∧ W'.ownsRow w.heap.size 22 1 v hh ((List.range hh).map (Ke b o n)) ∧ Below w.heap.size w W' := by
 have H := qh0 Bs Bn b o n hh cap hn hn' hh' hcap w hBs hBn hs hc;go_enter Tryz.func106,Tryz.ntmps106;go_wp2_with fail;refine H.mono ?_;rintro e W1 ⟨v,rfl,ho,hb⟩;go_wp2_with fail;go_ret;exact ⟨v,rfl,ho,hb⟩
theorem qtr (a : Option Addr) (L cap n : Nat) (hn : 1 ≤ n) (w : World) :
  Calls qP 107 #[.slice a L cap,.int .i64 (n : Int)] w fun e W' => e = .returned (.func (.func 170) #[] #[.pointer (some ⟨w.heap.size,0,none⟩),.pointer (some ⟨w.heap.size + 1,0,none⟩)]) ∧ W' = (w.alloc (.cells #[.slice a L cap] 22)).alloc (.cells #[.int .i64 (n : Int)] 3) := by
 have h1 : ¬ (n : Int) < 1 := by omega
 go_enter Tryz.func107,Tryz.ntmps107;go_wp2_with fail;go_ret;exact ⟨rfl,rfl⟩
end Put
namespace Put
open Grd (C SliceAt Qb Qf z0 Q0 Qe)
def Zj (W : World) (v : Value) : Prop := ∃ R cs t fr,v = .pointer (some ⟨R,0,none⟩) ∧ W.heap[R]? = some (.cells cs t fr) ∧ cs.size = 22
def Z7 (W : World) (v : Value) : Array Value := match v with
 | .pointer (some a) => (match W.heap[a.block]? with
  | some (.cells cs _ _) => cs
  | _ => #[])
 | _ => #[]
theorem Xp (a : Act) (dst : Option Tmp) (x : Operand) (ty : TypeId) (pos : String) (after : Array Edge) (guard : Option (Nat × Bool)) (W : World) (h : Zj W (a.eval x)) :
  (execOp a.eval { dst,op := .load 32 x,type := ty,pos,after,guard }).run qP W = .ok (.value (.agg (Z7 W (a.eval x)))) W := by
 obtain ⟨R,cs,t,fr,h0,h1,h2⟩ := h;have e : Z7 W (a.eval x) = cs := by rw [h0];unfold Z7;simp only [];rw [h1]
 rw [e];have hi : (Tryz.prog.info? 32).map (·.size) = some 22 := by kernel_rfl
 have hr := run_loadVar_row W R t 32 cs fr _ h1 Tryz.underlying32 rfl (by rw [h2];exact hi)
 unfold execOp;simp only [h0,Instr.loadAt,Instr.sureAddr,Sem.run_bind,Sem.run_pure,Result.andThen_ok,hr]
theorem Qs {W : World} {R : Nat} {t : TypeId} {s : Scr} {cv tv gv : Value} (h : W.heap[R]? = some (.cells (scrA s cv tv gv) t (0,0))) : Zj W (.pointer (some ⟨R,0,none⟩)) ∧ Z7 W (.pointer (some ⟨R,0,none⟩)) = scrA s cv tv gv := by
 refine ⟨⟨_,_,_,_,rfl,h,rfl⟩,?_⟩;unfold Z7;simp only [];rw [h]
def qwe (v : Value) : Prop := ∃ s cv tv gv,v = .agg (scrA s cv tv gv)
theorem qvz (s : Scr) (cv tv gv : Value) : qwe (.agg (scrA s cv tv gv)) := ⟨s,cv,tv,gv,rfl⟩
def qgh (v : Value) : Prop := ∃ a n c,v = .slice a n c
theorem qfl (a : Option Addr) (n c : Nat) : qgh (.slice a n c) := ⟨a,n,c,rfl⟩
def qsw (v : Value) (rv : Value) : Array Value := match v with
 | .agg cs => cs.push rv
 | _ => #[]
theorem qax (s : Scr) (cv tv gv rv : Value) : qsw (.agg (scrA s cv tv gv)) rv = shA s cv tv gv rv := rfl
theorem qvi (W : World) (s : Scr) (cv tv gv : Value) (a : Option Addr) (n c : Nat) : (Instr.build 110 #[(0,.agg (scrA s cv tv gv)),(1,.slice a n c)]).run qP W = .ok (.agg (shA s cv tv gv (.slice a n c))) W := by
 kernel_rfl
theorem qix (a : Act) (dst : Option Tmp) (x y : Operand) (ty : TypeId) (pos : String) (after : Array Edge) (guard : Option (Nat × Bool)) (W : World) (h : qwe (a.eval x)) (hy : qgh (a.eval y)) :
  (execOp a.eval { dst,op := .build 110 #[(0,x),(1,y)],type := ty,pos,after,guard }).run qP W = .ok (.value (.agg (qsw (a.eval x) (a.eval y)))) W := by
 obtain ⟨s,cv,tv,gv,hx⟩ := h;obtain ⟨p,n,c,hy⟩ := hy;unfold execOp;simp only [List.map_toArray,List.map_cons,List.map_nil,hx,hy,qax,Sem.run_bind,qvi,Sem.run_pure,Result.andThen_ok]
theorem qi3 {w : World} {base : Nat} {e : TypeId} {size : Nat} {v : Value} {n : Nat} {xs : List Value} (h : w.ownsRow base e size v n xs) (hn : 0 < n) : ∃ g c,v = .slice (some ⟨g,0,none⟩) n c := by
 obtain ⟨h0,h | ⟨g',cap,cur,hv,-⟩⟩ := h
 ·omega
 ·exact ⟨g',cap,hv⟩
theorem Qz {w : World} {base : Nat} {e : TypeId} {size : Nat} {v : Value} {n : Nat} {xs : List Value} (h : w.ownsRow base e size v n xs) : ∃ a c,v = .slice a n c := by
 obtain ⟨h0,⟨rfl,rfl⟩ | ⟨g',cap,cur,hv,-⟩⟩ := h
 ·exact ⟨_,_,rfl⟩
 ·exact ⟨_,cap,hv⟩
theorem X9 {W : World} {p i : Nat} {A A' : Array Value} {t : TypeId} {v : Value} (h : W.heap[p]? = some (.cells A t (0,0))) (e : A.setIfInBounds i v = A') : (W.setCell ⟨p,i,none⟩ v).heap[p]? = some (.cells A' t (0,0)) := by
 rw [← e];exact heap_setCell_same W p i _ _ v h
theorem Zf {W : World} {p i k : Nat} {v : Value} (h : k ≠ p) : (W.setCell ⟨p,i,none⟩ v).heap[k]? = W.heap[k]? := heap_setCell_other W ⟨p,i,none⟩ k v h
theorem Z5 {W : World} {N p i : Nat} {e : TypeId} {v u : Value} {n : Nat} {xs : List Value} {A : Array Value} {t : TypeId} (h : W.ownsRow N e 1 u n xs) (hp : W.heap[p]? = some (.cells A t (0, 0))) (ht : t ≠ e) : (W.setCell ⟨p, i, none⟩ v).ownsRow N e 1 u n xs :=
 Ze h fun g hg => Zf fun eq => by
  obtain ⟨-,B,f,hB⟩ := Qn h g hg;rw [eq,hp] at hB;injection hB with hB
  injection hB with _ hB _
  exact ht hB
theorem Jv {W W' : World} {N : Nat} {e : TypeId} {u : Value} {n : Nat} {xs : List Value} (h : W.ownsRow N e 1 u n xs) (hb : Below W.heap.size W W') : W'.ownsRow N e 1 u n xs :=
 Ze h fun g hg => by
  obtain ⟨-,B,f,hB⟩ := Qn h g hg;exact hb.block g (Qc hB)
theorem ql8 (a : Option Addr) (L cap n : Nat) (hn : 1 ≤ n) (w : World) :
  Calls qP 107 #[.slice a L cap,.int .i64 (n : Int)] w fun e W' => ∃ Bs Bn,e = .returned (.func (.func 170) #[] #[.pointer (some ⟨Bs,0,none⟩),.pointer (some ⟨Bn,0,none⟩)]) ∧ Bs < W'.heap.size ∧ Bn < W'.heap.size ∧ W'.cell? ⟨Bs,0,none⟩ = some (.slice a L cap) ∧ W'.cell? ⟨Bn,0,none⟩ = some (.int .i64 (n : Int)) ∧ Below w.heap.size w W' := by
 refine (qtr a L cap n hn w).mono ?_;rintro e W ⟨rfl,rfl⟩;have x0 := qf w (.cells #[.slice a L cap] 22);have x1 := qf (w.alloc (.cells #[.slice a L cap] 22)) (.cells #[.int .i64 (n : Int)] 3);have y0 : ((w.alloc (.cells #[.slice a L cap] 22)).alloc (.cells #[.int .i64 (n : Int)] 3)).heap[w.heap.size]? = _ := (Below.heap_alloc _ _ _ (by simp)).trans x0
 refine ⟨w.heap.size,w.heap.size + 1,rfl,by simp;omega,by simp,?_,?_,((qr _ _).alloc (qd _) _).alloc (by simp) _⟩
 ·simp [World.cell?,y0]
 ·have e : (w.alloc (.cells #[.slice a L cap] 22)).heap.size = w.heap.size + 1 := by simp
  rw [e] at x1;unfold World.cell?;rw [x1]
  rfl
section
attribute [local go_sem ↓] Xp qix
attribute [local go_sem] qvz qfl qax
theorem qx6 (n hh : Nat) (s : Scr) (cv tv gv : Value) (w0 w : World) (hV : Zh w0 s cv tv gv) (hb0 : Below w0.heap.size w0 w) (hF : Fits s) (hw : s.w = n) (hh' : s.h = hh) (hz : Qf n hh s.cs = 0) :
  Calls qP 61 #[.agg (scrA s cv tv gv)] w fun e W' => ∃ p,e = .returned (.pointer (some ⟨p,0,none⟩)) ∧ ShAt 110 W' w0.heap.size w.heap.size p s (Qe n s.cs hh) ∧ Below w.heap.size w W' := by
 have hzz := (Grd.Zd n hh s.cs).1 hz;obtain ⟨hsz,hL,-⟩ := hzz;have hsz' : 1 ≤ (n : Int) ∧ (n : Int) ≤ 120 ∧ 1 ≤ (hh : Int) ∧ (hh : Int) ≤ 60 := by simpa [Grd.Zk] using hsz
 obtain ⟨w1,w2,w3,w4⟩ := hsz';have hne : s.cs ≠ [] := by
  intro e;rw [e] at hL;have : 1 ≤ n * hh := Nat.mul_pos (by omega) (by omega)
  simp at hL;omega
 rcases hV.c with ⟨he,-⟩ | ⟨-,b,o,cap,rfl,hc1,hc2,hC⟩
 ·exact absurd he hne
 have HL : Hid (s.cs.length = n * hh) := hL;rw [hL] at hc1 hV ⊢;have HC : Hid (Qb w0 b o s.cs) := hC;have HB00 : Hid (Below w0.heap.size w0 w) := hb0;have HW : Hid (s.w = n ∧ s.h = hh) := ⟨hw,hh'⟩;clear hL hC hz hsz hne hw hh';have x0 := qf w (.cells (scrA s (.slice (some ⟨b,o,none⟩) (n * hh) cap) tv gv) 32);have kb : Below w.heap.size w (w.alloc (.cells (scrA s (.slice (some ⟨b,o,none⟩) (n * hh) cap) tv gv) 32)) := (qr _ _).alloc (qd _) _;have HX0 : Hid _ := x0;have HB0 : Hid _ := kb;have HV : Hid (Zh w0 s _ tv gv) := hV;have HF : Hid (Fits s) := hF;clear x0 kb hV hF hb0;have hl0 : w.heap.size < (w.alloc (.cells (scrA s (.slice (some ⟨b,o,none⟩) (n * hh) cap) tv gv) 32)).heap.size := by simp
 go_enter Tryz.func61,Tryz.ntmps61;go_upto_region 1 with fail
 generalize w.alloc (.cells (scrA s (.slice (some ⟨b,o,none⟩) (n * hh) cap) tv gv) 32) = W1 at *;go_cut [3] from 3 to 14 (fun c wx => ∃ p rv,c = .pointer (some ⟨p,0,none⟩) ∧ w.heap.size ≤ p ∧ wx.heap[p]? = some (.cells (shA s (.slice (some ⟨b,o,none⟩) (n * hh) cap) tv gv rv) 110 (0,0)) ∧ wx.ownsRow w.heap.size 22 1 rv hh ((List.range hh).map (Ke b o n)) ∧ Below W1.heap.size W1 wx)
 case first =>
  have hn1 : 1 ≤ n := by omega
  have SK : Hid (∀ w',Below W1.heap.size W1 w' → Below W1.heap.size W1 w' ∧ Zj w' (.pointer (some ⟨w.heap.size,0,none⟩)) ∧ Z7 w' (.pointer (some ⟨w.heap.size,0,none⟩)) = scrA s (.slice (some ⟨b,o,none⟩) (n * hh) cap) tv gv ∧ w'.cell? ⟨w.heap.size,0,none⟩ = some (.int .i64 (n : Int)) ∧ w'.cell? ⟨w.heap.size,2,none⟩ = some (.slice (some ⟨b,o,none⟩) (n * hh) cap)) := fun w' hb => by
   have hx := Grd.carry HX0.out hb;have q := Qi hx;rw [HW.out.1] at q;exact ⟨hb,(Qs hx).1,(Qs hx).2,q.1.1,q.1.2.2.1⟩
  have b0 : Below W1.heap.size W1 W1.drew := (qr _ _).drew;have HC1 : Hid (n * hh ≤ cap) := hc1;have hh1 : 0 < hh := by omega
  clear hc1
  go_region_held3 (fun w' => Below W1.heap.size W1 w' ∧ Zj w' (.pointer (some ⟨w.heap.size, 0, none⟩)) ∧ Z7 w' (.pointer (some ⟨w.heap.size, 0, none⟩)) = scrA s (.slice (some ⟨b, o, none⟩) (n * hh) cap) tv gv ∧ w'.cell? ⟨w.heap.size, 0, none⟩ = some (.int .i64 (n : Int)) ∧ w'.cell? ⟨w.heap.size, 2, none⟩ = some (.slice (some ⟨b, o, none⟩) (n * hh) cap))
   (first | exact SK.out _ (c2.alloc c2.size _) | exact SK.out _ c2 | exact SK.out _ c1 | exact SK.out _ b0)
   (first | (go_at_call 107;refine (ql8 _ _ _ n hn1 _).mono ?_;rintro e V1 ⟨Bs,Bn,rfl,l1,l2,q1,q2,b1⟩;have c1 := b0.trans (b1.mono b0.size);clear b1) | (go_at_call 106;refine (qee Bs Bn b o n hh cap hn1 (by omega) (by omega) HC1.out _ l1 l2 q1 q2).mono ?_;rintro e V2 ⟨v,rfl,ho,b2⟩;have c2 := c1.trans (b2.mono c1.size);have HO : Hid (V2.ownsRow V1.heap.size 22 1 v hh ((List.range hh).map (Ke b o n))) := ho;obtain ⟨g,cp,rfl⟩ := qi3 ho hh1;clear b2 ho q1 q2))
  go_wp2_with fail;go_meet;exact ⟨V2.heap.size,_,rfl,Nat.le_trans (Nat.le_of_lt hl0) c2.size,qf _ _,Grd.Q4 (World.ownsRow.alloc HO.out _) (by have := c1.size;omega),c2.alloc c2.size _⟩
 case rest =>
  obtain ⟨p,rv,rfl,hp,hblk,hown,hb⟩ := hcut;have hne : w.heap.size ≠ p := by
   intro e;rw [← e,Grd.carry HX0.out hb] at hblk;injection hblk with hblk
   injection hblk with _ hblk _
   exact absurd hblk (by decide)
  have HX1 : Hid _ := Grd.carry HX0.out hb;have HP1 : Hid _ := hblk;have HO1 : Hid _ := hown;have HB1 : Hid (Below w.heap.size w wc) := HB0.out.trans (hb.mono HB0.out.size);clear hblk hown hb;obtain ⟨-,⟨-,c12,-⟩,-⟩ := Qi HX1.out;go_wp2_with fail;refine (qaz tv s.tabs wc (Vx.next HV.out.t (HB00.out.trans (HB1.out.mono HB00.out.size))) HF.out.bl).mono ?_;rintro e W2 ⟨tv',rfl,ho2,b2⟩;obtain ⟨ta,tc,rfl⟩ := Qz ho2;have hp2 := Grd.carry HP1.out b2;have f12 := (Qr hp2).2.2 12;have c12' := (Qr hp2).2.1.2.1;clear c12;have HP2 : Hid _ := X9 (i := 12) (v := .slice ta s.tabs.length tc) hp2 rfl;have HX2 : Hid _ := (Zf (i := 12) (v := .slice ta s.tabs.length tc) hne).trans (Grd.carry HX1.out b2);have HT2 : Hid _ := Z5 (i := 12) (v := .slice ta s.tabs.length tc) ho2 hp2 (by decide)
  have HO2 : Hid _ := Z5 (i := 12) (v := .slice ta s.tabs.length tc) (Jv HO1.out b2) hp2 (by decide)
  have HB2 : Hid (Below w.heap.size w (W2.setCell ⟨p,12,none⟩ (.slice ta s.tabs.length tc))) := (HB1.out.trans (b2.mono HB1.out.size)).setCell hp _;have c20 := (Qi (Grd.carry HX1.out b2)).2.1.2.2.2.2.2.2.2.2.2.1;clear ho2 b2 hp2;go_wp2_with fail;refine (Txt.Gf s.title _ (by have := HF.out.tl;omega)).mono ?_
  rintro e W4 ⟨rfl,b4⟩;have hp4 := Grd.carry HP2.out b4;have f20 := (Qr hp4).2.2 20;have c20' := (Qr hp4).2.1.2.2.2.2.2.2.2.2.2.1;have HP4 : Hid _ := X9 (i := 20) (v := .string s.title) hp4 rfl;have HX4 : Hid _ := (Zf (i := 20) (v := .string s.title) hne).trans (Grd.carry HX2.out b4);have HT4 : Hid _ := Z5 (i := 20) (v := .string s.title) (Jv HT2.out b4) hp4 (by decide)
  have HO4 : Hid _ := Z5 (i := 20) (v := .string s.title) (Jv HO2.out b4) hp4 (by decide)
  have HB4 : Hid (Below w.heap.size w (W4.setCell ⟨p,20,none⟩ (.string s.title))) := (HB2.out.trans (b4.mono HB2.out.size)).setCell hp _;have c21 := (Qi (Grd.carry HX2.out b4)).2.1.2.2.2.2.2.2.2.2.2.2;clear b4 hp4 c20 c12' f12;go_wp2_with fail;refine (qib gv s.gone _ (Vw.next HV.out.g (HB00.out.trans (HB4.out.mono HB00.out.size))) HF.out.gl).mono ?_;rintro e W6 ⟨gv',gvs,rfl,ho6,-,hr6,b6⟩;have HR6 : Hid (qai w0 gvs s.gone) := hr6 w0 (HB00.out.trans (HB4.out.mono HB00.out.size)) HV.out.g;obtain ⟨ga,gc,rfl⟩ := Qz ho6;have hp6 := Grd.carry HP4.out b6;have f21 := (Qr hp6).2.2 21;have c21' := (Qr hp6).2.1.2.2.2.2.2.2.2.2.2.2.1;have HP6 : Hid _ := X9 (i := 21) (v := .slice ga s.gone.length gc) hp6 rfl;have HT6 : Hid _ := Z5 (i := 21) (v := .slice ga s.gone.length gc) (Jv HT4.out b6) hp6 (by decide)
  have HO6 : Hid _ := Z5 (i := 21) (v := .slice ga s.gone.length gc) (Jv HO4.out b6) hp6 (by decide)
  have HG6 : Hid _ := Z5 (i := 21) (v := .slice ga s.gone.length gc) ho6 hp6 (by decide)
  have HB6 : Hid (Below w.heap.size w (W6.setCell ⟨p,21,none⟩ (.slice ga s.gone.length gc))) := (HB4.out.trans (b6.mono HB4.out.size)).setCell hp _;clear ho6 b6 hp6 c21 c20' f20 hr6;go_wp2_with fail;go_ret;have hk : Kept w0.heap.size w0 (W6.setCell ⟨p,21,none⟩ (.slice ga s.gone.length gc)) := fun k hk _ => (HB00.out.trans (HB6.out.mono HB00.out.size)).block k hk
  have hbw : b < w0.heap.size := qaj HC.out (by intro e;have := HL.out;rw [e] at this;have h1 : 1 ≤ n * hh := Nat.mul_pos (by omega) (by omega);simp at this;omega)
  refine ⟨p,rfl,⟨_,_,_,_,gvs,(List.range hh).map (Ke b o n),HP6.out,hp,HB00.out.size,⟨_,_,_,rfl⟩,Grd.Q4 HT6.out HB1.out.size,Grd.Q4 HG6.out HB4.out.size,(RowsIn.of HR6.out rfl).keep hk,?_,?_,?_⟩,HB6.out⟩
  ·rw [Grd.Qt]
   exact HO6.out
  ·refine ⟨by rw [Grd.Qt]; simp, fun i hi => ?_⟩
   rw [Grd.Qt] at hi;have e1 : ((List.range hh).map (Ke b o n)).getD i Q0 = Ke b o n i := by simp [qy,hi]
   have e2 : (Qe n s.cs hh).getD i [] = Grd.rowAt n s.cs i := by simp [Qe,qy,hi]
   have hle : i * n + n ≤ n * hh := by
    have : (i + 1) * n ≤ hh * n := Nat.mul_le_mul_right n hi;rw [Nat.mul_comm n hh];rw [Nat.add_mul] at this;omega
   have hlen : (Grd.rowAt n s.cs i).length = n := by
    unfold Grd.rowAt;rw [List.length_take,List.length_drop,HL.out];omega
   have hC2 := HC.out.part (i * n) n (by rw [HL.out];exact hle)
   have hr : X3 w0 w0.heap.size (Ke b o n i) (Grd.rowAt n s.cs i) := .inr ⟨by intro e;rw [e] at hlen;simp at hlen;omega,b,_,n,by unfold Ke;rw [hlen],by omega,by omega,hC2,.inl hbw⟩
   rw [e1,e2];exact hr.keep hk
  ·intro k h1 h2
   obtain ⟨-,A,f,hA⟩ := Qn HO4.out k h1;obtain ⟨hB,-⟩ := Qn HG6.out k h2;have := Qc hA;omega
end
end Put
open Go.ChangeShapes Go.WideShapes Go.ChangeAt Go.RowKit Go.Maps
namespace Grd
theorem Fj (rows : List (List C)) (k : Nat) (h : k < rows.length) : (rows.take (k + 1)).flatten = (rows.take k).flatten ++ rows.getD k [] := by
 rw [List.take_add_one,List.flatten_append,List.getElem?_eq_getElem h];have : rows.getD k [] = rows[k] := by simp [qy,h]
 rw [this];simp
theorem Yb (n : Nat) (rows : List (List C)) (hr : ∀ i, i < rows.length → (rows.getD i []).length = n) : ∀ k, k ≤ rows.length → ((rows.take k).flatten).length = k * n
 | 0,_ => by simp
 | k + 1,h => by
  rw [Fj rows k (by omega),List.length_append,Yb n rows hr k (by omega),hr k (by omega),Nat.add_mul,Nat.one_mul]
end Grd
namespace Put
open Grd (C SliceAt Qb Qf z0 Q0 flat)
theorem qw5 (n : Nat) (hn : n ≤ 16777216) (w : World) :
  Calls qP 171 #[.slice none 0 0,.int .i64 (n : Int)] w fun e w' => ∃ v',e = .returned v' ∧ w'.ownsRow w.heap.size 56 4 v' 0 [] ∧ Below w.heap.size w w' := by
 obtain ⟨i0,hi,hzz⟩ := Option.map_eq_some_iff.1 Grd.U4;simp only [Prod.mk.injEq] at hzz;obtain ⟨hz0,hz1,hz2⟩ := hzz
 by_cases h0 : n = 0
 ·subst h0
  go_enter Tryz.func171,Tryz.ntmps171;go_wp2_with fail;go_ret;exact ⟨_,rfl,World.ownsRow_nil _ _ _ _,qr _ _⟩
 ·have h1 : ¬ (n : Int) < 0 := by omega
  have h2 : (0 : Int) < (n : Int) := by omega
  have hr := Lib.run_append_nil_zeros (P := qP) w 22 3 22 56 i0 _ .i64 .i64 Grd.Jc (by kernel_rfl) hi hz0 n (by omega) (by rw [hz1];omega) (by omega) (by rw [hz2];omega)
  have HM : Hid ((w.drew.alloc (.cells (Builtin.zeroCells (Value.agg #[.int .i32 0,.int .i64 0,.int .i64 0,.int .i64 0]).cells n ++ Builtin.zeroCells (Value.agg #[.int .i32 0,.int .i64 0,.int .i64 0,.int .i64 0]).cells (grownCap w n 0 56 - n)) 56)).ownsRow w.heap.size 56 4 (.slice (some ⟨w.heap.size,0,none⟩) 0 (grownCap w n 0 56)) 0 []) := by
   refine World.ownsRow_made w.drew _ _ (qd _) (grownCap_le_maxLen w n 0 _ (by unfold maxLen;omega)) ?_
   rw [Array.size_append,size_zeroCells,size_zeroCells];have := grownCap_ge w n 0 56;have e : (Value.agg #[.int .i32 0,.int .i64 0,.int .i64 0,.int .i64 0]).cells.size = 4 := rfl;rw [e];omega
  have HB : Hid (Below w.heap.size w (w.drew.alloc (.cells (Builtin.zeroCells (Value.agg #[.int .i32 0,.int .i64 0,.int .i64 0,.int .i64 0]).cells n ++ Builtin.zeroCells (Value.agg #[.int .i32 0,.int .i64 0,.int .i64 0,.int .i64 0]).cells (grownCap w n 0 56 - n)) 56))) := ((qr _ w).drew).alloc (qd _) _;have HR : Hid _ := hr;clear hr;generalize w.drew.alloc (.cells (Builtin.zeroCells (Value.agg #[.int .i32 0,.int .i64 0,.int .i64 0,.int .i64 0]).cells n ++ Builtin.zeroCells (Value.agg #[.int .i32 0,.int .i64 0,.int .i64 0,.int .i64 0]).cells (grownCap w n 0 56 - n)) 56) = W1 at *;have hg1 := grownCap_ge w n 0 56;have hg2 : grownCap w n 0 56 ≤ 9223372036854775807 := by have := grownCap_le_maxLen w n 0 56 (by unfold maxLen;omega);unfold maxLen at this;omega
  generalize grownCap w n 0 56 = gc at *;go_enter Tryz.func171,Tryz.ntmps171;go_wp2_with (at_builtin;refine Lib.wpList_append_run _ rfl _ _ _ _ rfl _ _ rfl rfl _ _ HR.out ?_);go_ret;exact ⟨_,rfl,HM.out,HB.out⟩
theorem qfm {w : World} {base : Nat} {e : TypeId} {size : Nat} {v : Value} {n : Nat} {xs : List Value} (h : w.ownsRow base e size v n xs) : ∃ a c,v = .slice a n c := by
 obtain ⟨h0,⟨rfl,rfl⟩ | ⟨g',cap,cur,hv,-⟩⟩ := h
 ·exact ⟨_,_,rfl⟩
 ·exact ⟨_,cap,hv⟩
theorem qtn {w : World} {base : Nat} {e : TypeId} {size : Nat} {v : Value} {n : Nat} {xs : List Value} (h : w.ownsRow base e size v n xs) : ∀ k,v.ownBlock = some k → base ≤ k := fun k hk => (Qn h k hk).1
def Yl (rows : List (List C)) (k : Nat) : Nat := (rows.take k).flatten.length
theorem qra (rows : List (List C)) (k : Nat) (h : k < rows.length) : Yl rows (k + 1) = Yl rows k + (rows.getD k []).length := by
 unfold Yl;rw [Grd.Fj rows k h,List.length_append]
theorem qwd (rows : List (List C)) (k m : Nat) (h : k ≤ m) : Yl rows k ≤ Yl rows m := by
 have e : rows.take m = rows.take k ++ (rows.take m).drop k := by
  have h1 := List.take_append_drop k (rows.take m);rw [List.take_take,Nat.min_eq_left h] at h1;exact h1.symm
 unfold Yl;rw [e,List.flatten_append,List.length_append];omega
theorem quy (rows : List (List C)) : Yl rows rows.length = rows.flatten.length := by
 unfold Yl;rw [List.take_of_length_le (qd _)]
theorem qb2 (b o pc : Nat) (rows : List (List C)) (w : World) (hV : ∀ j, j < rows.length → ∃ b' o' c', w.cell? ⟨b, o + j, none⟩ = some (.slice (some ⟨b', o', none⟩) (rows.getD j []).length c') ∧ Qb w b' o' (rows.getD j [])) (cs : List C) (hcs : rows.flatten = cs) (hl : cs.length ≤ 1048576) (hrl : rows.length ≤ 1048576) :
  Calls qP 110 #[.slice (some ⟨b,o,none⟩) rows.length pc] w fun e w' => ∃ v',e = .returned v' ∧ w'.ownsRow w.heap.size 56 4 v' cs.length (flat cs) ∧ Below w.heap.size w w' := by
 obtain ⟨i0,hi,hzz⟩ := Option.map_eq_some_iff.1 Grd.U4;simp only [Prod.mk.injEq] at hzz;obtain ⟨hz0,hz1,hz2⟩ := hzz;have hlt := quy rows;rw [hcs] at hlt;have HLA : Hid (∀ k,k ≤ rows.length → Yl rows k ≤ 1048576) := fun k hk => by have := qwd rows k rows.length hk;omega
 have HLS : Hid (∀ k,k < rows.length → Yl rows (k + 1) = Yl rows k + (rows.getD k []).length) := fun k hk => qra rows k hk
 have HLL : Hid (Yl rows rows.length = cs.length) := hlt;have HNX : Hid (∀ k,k < rows.length → flat (rows.take (k + 1)).flatten = flat (rows.take k).flatten ++ flat (rows.getD k [])) := fun k hk => by rw [Grd.Fj rows k hk,Grd.qau]
 have HALL : Hid ((rows.take rows.length).flatten = cs) := by unfold Hid;rw [List.take_of_length_le (qd _),hcs]
 have HROW : Hid (∀ j,j < rows.length → ∃ b' o' c',w.cell? ⟨b,o + j,none⟩ = some (.slice (some ⟨b',o',none⟩) (rows.getD j []).length c') ∧ Qb w b' o' (rows.getD j [])) := hV;have HLX : Hid (∀ k,k = rows.length → Yl rows k = cs.length) := fun k e => by rw [e];exact hlt
 clear hV hlt hcs;go_enter Tryz.func110,Tryz.ntmps110;go_wp2_with fail;go_loopg [3,11] rows.length (fun q z i wr => ∃ k : Nat,k ≤ rows.length ∧ rows.length - k ≤ q ∧ i = .int .i64 (k : Int) ∧ z = .int .i64 ((Yl rows k : Nat) : Int) ∧ w = wr)
 case atStart => exact ⟨0,by omega,by omega,rfl,rfl,rfl⟩
 case round =>
  obtain ⟨k,hk,hq,rfl,rfl,hwr⟩ := hrel;subst hwr
  by_cases hlt : k < rows.length
  ·have lt1 : ((k : Int) < (rows.length : Int)) := by omega
   obtain ⟨b',o',c',hrv,hS⟩ := HROW.out k hlt;have l1 := HLA.out (k + 1) (by omega)
   have l2 := HLS.out k hlt;have HS2 : Hid (Yl rows k + (rows.getD k []).length = Yl rows (k + 1)) := l2.symm;rw [l2] at l1;clear hS l2;generalize (rows.getD k []).length = rl at *;have l3 : ¬ ((Yl rows k : Nat) : Int) + (rl : Int) < 0 := by omega
   go_wp2_with fail;go_roundg (rows.length - (k + 1))
   case measure => omega
   case rel => exact ⟨k + 1,by omega,by omega,by go_num,by rw [← HS2.out];go_num,rfl⟩
  ·obtain rfl : k = rows.length := by omega
   have lt1 : ¬ ((rows.length : Int) < (rows.length : Int)) := by omega
   have l9 := HLA.out rows.length (qd _);generalize Yl rows rows.length = ll at *;go_wp2_with fail;refine (qw5 ll (by omega) _).mono ?_
   rintro e W1 ⟨v1,rfl,ho1,b1⟩;obtain ⟨va,vc,rfl⟩ := qfm ho1;have HO1 : Hid (W1.ownsRow w.heap.size 56 4 (.slice va 0 vc) 0 []) := ho1;have HB1 : Hid (Below w.heap.size w W1) := b1;clear ho1 b1;go_wp2_with fail;go_loopg [6,27] rows.length (fun q v i wr => ∃ k : Nat,k ≤ rows.length ∧ rows.length - k ≤ q ∧ i = .int .i64 (k : Int) ∧ wr.ownsRow w.heap.size 56 4 v (Yl rows k) (flat (rows.take k).flatten) ∧ Below w.heap.size w wr)
   case atStart => exact ⟨0,by omega,by omega,rfl,HO1.out,HB1.out⟩
   case round =>
    obtain ⟨k,hk,hq,rfl,hown,hb⟩ := hrel;have HO : Hid (wr.ownsRow w.heap.size 56 4 _ (Yl rows k) (flat (rows.take k).flatten)) := hown;have HB : Hid (Below w.heap.size w wr) := hb;obtain ⟨va2,vc2,rfl⟩ := qfm hown;clear hown hb
    by_cases hlt : k < rows.length
    ·have lt2 : ((k : Int) < (rows.length : Int)) := by omega
     obtain ⟨b',o',c',hrv,hS⟩ := HROW.out k hlt;have hrv2 := Qa HB.out hrv;have HSR : Hid _ := Grd.qey (hS.below HB.out);have HS2 : Hid (Yl rows (k + 1) = Yl rows k + (rows.getD k []).length) := HLS.out k hlt;have l1 := HLA.out (k + 1) (by omega)
     rw [HS2.out] at l1;have HN : Hid _ := HNX.out k hlt;have HF : Hid ((flat (rows.getD k [])).length = (rows.getD k []).length * 4) := Grd.Jw _;have HON : Hid (∀ u ∈ flat (rows.getD k []),u.oneCell' = true) := Grd.qcg _;have hbs := HB.out.size;clear hrv hS;generalize (rows.getD k []).length = rl at *;generalize flat (rows.getD k []) = fr at *
     go_wp2_with (first
      | (at_builtin; refine wpList_append_own _ rfl _ _ 22 rfl w.heap.size 56 i0 (.agg #[.int .i32 0, .int .i64 0, .int .i64 0, .int .i64 0]) 4 32 Grd.Jc hi hz0 hz1 hz2 rfl (by decide) _ _ _ rfl HO.out ⟨b', o', none⟩ rl c' fr rfl HF.out HSR.out HON.out (by unfold maxLen; omega) (by omega) (by omega) ?_
         intro v3 W3 hown3 hgrow hnil))
     have HO3 : Hid (W3.ownsRow w.heap.size 56 4 v3 (Yl rows k + rl) (flat (rows.take k).flatten ++ fr)) := hown3;have HB3 : Hid (Below w.heap.size w W3) := HB.out.grown hgrow hbs (fun g hg => (qtn HO.out g hg))
     clear hown3 hgrow;go_wp2_with fail;go_roundg (rows.length - (k + 1))
     case measure => omega
     case rel => exact ⟨k + 1,by omega,by omega,by go_num,by rw [HS2.out,HN.out];exact HO3.out,HB3.out⟩
    ·obtain rfl : k = rows.length := by omega
     have lt2 : ¬ ((rows.length : Int) < (rows.length : Int)) := by omega
     go_wp2_with fail;go_ret;refine ⟨_,rfl,?_,HB.out⟩;have h := HO.out;rw [HALL.out] at h;rw [← HLX.out _ rfl];exact h
end Put
end Go.Proofs.YtooobiigijphkaaGreatDoor
