/- Parts of the proof, shortened by a program. -/
import Derived.Test.YtooobiigijphkaaGreatDoorPartD
import Derived.Lib.DecodeN
import Derived.Lib.Strings
import Derived.Lib.LaidU8
import Derived.Deep.Strs
import Derived.Laws.ResultCell
import Derived.BigQuiet
import Derived.Deep.MidRow
import Derived.Lib.OthersKept
import Derived.WalkSmall
import Derived.Maps.AppendAt
import Derived.Shelf.Strings.BuilderRune
import Derived.Lib.RuneCount
import Derived.Lib.SliceRun
set_option maxHeartbeats 4000000
open Nat renaming le_refl → qd
open List renaming replicate → qe, getD → qy
open Go.RowKit.Below renaming refl → qr
open Go.Proofs.Tryz renaming prog → qP
namespace Go.Proofs.YtooobiigijphkaaGreatDoor
set_option linter.unusedVariables false
set_option linter.unusedSimpArgs false
set_option maxRecDepth 100000
namespace Txt
def dec (l : List UInt8) : Nat × Nat := Lib.decodeN l.length (l.getD 0 0).toNat (l.getD 1 0).toNat (l.getD 2 0).toNat (l.getD 3 0).toNat
theorem qcv (s : ByteArray) (i k : Nat) : s.get! (i + k) = (s.data.toList.drop i).getD k 0 := by
 show s.data[i + k]! = _
 rw [List.getD_eq_getElem?_getD,List.getElem?_drop,Array.getElem?_toList,getElem!_def]
 cases s.data[i + k]? <;> rfl
theorem qon (s : ByteArray) (pos : Nat) : Utf8.decode s pos = dec (s.data.toList.drop pos) := by
 rw [Lib.decode_at];unfold dec;rw [show s.get! pos = s.get! (pos + 0) from rfl,qcv,qcv,qcv,qcv]
 simp
def rl : Nat → List UInt8 → List (Int × Nat)
 | 0,_ => []
 | f + 1,l => if l = [] then [] else (((dec l).1 : Int),(dec l).2) :: rl f (l.drop (dec l).2)
def rn (l : List UInt8) : List (Int × Nat) := rl l.length l
theorem q1b (s : ByteArray) : ∀ f pos : Nat, rs s f pos = rl f (s.data.toList.drop pos)
 | 0,_ => rfl
 | f + 1,pos => by
  by_cases h : pos < s.size
  ·rw [qkd s f pos h, q1b s f]
   have hne : s.data.toList.drop pos ≠ [] := by
    intro e;have := congrArg List.length e;simp at this;omega
   simp only [rl,if_neg hne,← qon,List.drop_drop]
  ·rw [qq0 s _ pos h]
   have he : s.data.toList.drop pos = [] := List.drop_eq_nil_iff.2 (by simp;omega)
   simp [rl,he]
theorem qck (s : ByteArray) : runes s = rn s.data.toList := by
 unfold runes rn;rw [q1b];simp
theorem qpf (n b0 b1 b2 b3 : Nat) (h : b0 < 128) : Lib.decodeN n b0 b1 b2 b3 = (b0,1) := by
 simp [Lib.decodeN,h]
theorem qgg (n b0 b1 b2 b3 : Nat) : 1 ≤ (Lib.decodeN n b0 b1 b2 b3).2 := by
 unfold Lib.decodeN
 repeat' split
 all_goals simp
theorem qjp (n b0 b1 b2 b3 : Nat) (hn : 1 ≤ n) : (Lib.decodeN n b0 b1 b2 b3).2 ≤ n := by
 unfold Lib.decodeN
 repeat' split
 all_goals simp
 all_goals omega
theorem qab (l : List UInt8) : 1 ≤ (dec l).2 := qgg _ _ _ _ _
theorem q10 (l : List UInt8) (h : l ≠ []) : (dec l).2 ≤ l.length := qjp _ _ _ _ _ (by cases l <;> simp_all)
theorem qpc (f : Nat) : rl f [] = [] := by cases f <;> rfl
theorem qfd (f : Nat) (l : List UInt8) (h : l ≠ []) : rl (f + 1) l = (((dec l).1 : Int),(dec l).2) :: rl f (l.drop (dec l).2) := by
 simp [rl,h]
theorem qdj {l : List UInt8} (h : l ≠ []) : 1 ≤ l.length := by cases l <;> simp_all
theorem qsq : ∀ (f g : Nat) (l : List UInt8), l.length ≤ f → l.length ≤ g → rl f l = rl g l
 | f,g,[],_,_ => by rw [qpc,qpc]
 | 0,_,x :: t,hf,_ => by simp at hf
 | _ + 1,0,x :: t,_,hg => by simp at hg
 | f + 1,g + 1,x :: t,hf,hg => by
  rw [qfd f _ (by simp),qfd g _ (by simp)]
  have hp := qab (x :: t);rw [qsq f g _ (by simp only [List.length_drop];simp at hf ⊢;omega) (by simp only [List.length_drop];simp at hg ⊢;omega)]
theorem qst (l : List UInt8) (h : l ≠ []) : rn l = (((dec l).1 : Int),(dec l).2) :: rn (l.drop (dec l).2) := by
 unfold rn;have h1 := qdj h;have hp := qab l;rw [show l.length = (l.length - 1) + 1 from by omega,qfd _ _ h]
 rw [qsq (l.length - 1) (l.drop (dec l).2).length _ (by simp only [List.length_drop];omega) (qd _)]
end Txt
open Go.ChangeShapes Go.WideShapes Go.ChangeAt Go.RowKit
namespace Txt
def bs (l : List UInt8) : ByteArray := ⟨l.toArray⟩
theorem q0n (l : List UInt8) : (bs l).size = l.length := by simp [bs,ByteArray.size]
theorem qsa (l : List UInt8) : (bs l).data.toList = l := by simp [bs]
theorem qtk (a b : List UInt8) : bs a ++ bs b = bs (a ++ b) := by
 apply ByteArray.ext;simp [bs]
theorem qda : ∀ (l : List (Int × Int × Int)) (cs : List Value), cs.length = 3 * l.length → (∀ i x, l[i]? = some x → (cs.drop (i * 3)).take 3 = qcu x) → cs = l.flatMap qcu
 | [],cs,hl,_ => by simpa using hl
 | x :: t,cs,hl,h => by
  have h0 := h 0 x rfl
  have ht := qda t (cs.drop 3) (by simp only [List.length_drop, List.length_cons] at hl ⊢; omega) (fun i y hy => by
   have := h (i + 1) y (by simpa using hy)
   rw [List.drop_drop]
   rwa [show 3 + i * 3 = (i + 1) * 3 from by omega])
  simp only [Nat.zero_mul,List.drop_zero] at h0;rw [List.flatMap_cons,← ht,← h0,List.take_append_drop]
theorem qk7 {H : Type} : (Rows.laid_trellis_text_spans : DataW H) = .agg (spans.map fun x => .agg [.lit (.int .i32 x.1),.lit (.int .i32 x.2.1),.lit (.int .i64 x.2.2)]) := rfl
theorem tab_of_reads {w : World} (h : Lib.VarReads qP w "trellis/text.spans" Rows.laid_trellis_text_spans) : Tab w := by
 obtain ⟨g, t, cs, fuel, p, hg, hty, hvar, hd⟩ := h;obtain rfl := Option.some.inj ((show Tryz.prog.globalNamed "trellis/text.spans" = some 0 by kernel_rfl).symm.trans hg)
 obtain rfl := Option.some.inj ((show (Tryz.prog.globals[0]?).map (fun x => x.type) = some 92 by kernel_rfl).symm.trans hty)
 have hlen : cs.toList.length = 63 := by
  obtain ⟨xs,m,_,_,hl,_,_⟩ := DataW.trod_array Tryz.underlying92 hd;rw [hl];kernel_rfl
 rw [qk7] at hd;have hcs : cs.toList = spans.flatMap qcu := by
  refine qda spans cs.toList (by rw [hlen];rfl) (fun i x hx => ?_)
  have hi : i < 21 := (List.getElem?_eq_some_iff.1 hx).1;obtain ⟨fuel',d,q,hdi,he⟩ := Lib.array_elem Tryz.underlying92 hd i hi;rw [List.getElem?_map,hx] at hdi;obtain rfl := Option.some.inj hdi;rw [show Tryz.prog.cellsOf 91 = 3 by kernel_rfl] at he
  obtain ⟨y0,y1,y2,n,hy,hl,e0,e1,e2⟩ := Deep.trod_struct3 Tryz.underlying91 he;rw [show Tryz.prog.cellsOf 91 = 3 by kernel_rfl] at hl
  generalize (cs.toList.drop (i * 3)).take 3 = c3 at *;simp only [Prod.mk.injEq,DataW.agg.injEq,List.cons.injEq,and_true] at hy;obtain ⟨⟨g0,g1,g2⟩,_⟩ := hy;simp only [show Tryz.prog.cellsOf 21 = 1 by kernel_rfl,show Tryz.prog.cellsOf 3 = 1 by kernel_rfl] at e0 e1 e2
  obtain ⟨z0,k0,rfl,_⟩ := DataW.trod_int Tryz.underlying21 e0;obtain ⟨z1,k1,rfl,_⟩ := DataW.trod_int Tryz.underlying21 e1;obtain ⟨z2,k2,rfl,_⟩ := DataW.trod_int Tryz.underlying3 e2
  match c3,hl with
  | [a,b,c],_ =>
   simp at k0 k1 k2 g0 g1 g2;subst k0 k1 k2 g0 g1 g2
   rfl
 unfold World.var? at hvar;rw [hg] at hvar;simp only [Option.bind_some] at hvar;split at hvar
 ·rename_i c tt fr hh
  obtain rfl := Option.some.inj hvar;have hc : c = spanCells := by unfold spanCells;rw [← hcs]
  exact ⟨tt,fr,by rw [hh,hc]⟩
 ·cases hvar
end Txt
namespace Grd
def blank : C := (32,0,0,0)
theorem Qd {P : Program} {fn : Func} {p u : Tmp} {ty : TypeId} (h : fn.results = #[.cell p ty, .tmp u]) (tmps : Array Value) (w : World) (g : Nat) (t : TypeId) (cs : Array Value) (fr : Nat × Nat) (d : TypeDesc)
  (hp : tmps.getD p undef = .pointer (some ⟨g,0,none⟩)) (hg : w.heap[g]? = some (.cells cs t fr))
  (hu : P.underlying ty = some d) (hd : (match d with | .struct _ | .array _ _ => true | _ => false) = true) (hi : (P.info? ty).map (·.size) = some cs.size) (v : Value) (hv : tmps.getD u undef = v) :
  (results fn tmps).run P w = .ok (.tuple #[.agg cs,v]) w := by
 rw [results_cell_tmp h,hp,hv];simp [asAddr,run_loadVar_row w g t ty cs fr d hg hu hd hi,Result.andThen]
theorem q2c (a b : Int) (x : Option Addr) (n c : Nat) : (#[.int .i64 a,.int .i64 b,.slice x n c] : Array Value).all (·.oneCell') = true := by simp [Value.oneCell']
theorem qv4 (a q : Int) (w : World) (hs : Zk a q = true) :
  Calls qP 34 #[.int .i64 a,.int .i64 q] w fun e w' => ∃ v,e = .returned (.tuple #[.agg #[.int .i64 a,.int .i64 q,v],.int .i64 0]) ∧ Y5 w' w.heap.size v (qe (a * q).toNat blank) ∧ Below w.heap.size w w' := by
 have H : Hid (Zk a q = true) := hs;have ⟨p0,p1,p2,p3,p4,p5⟩ := qff a q hs;clear hs;obtain ⟨N,hN⟩ := Int.eq_ofNat_of_zero_le p0;have hN1 : 1 ≤ N := by
  have : 1 * 1 ≤ a * q := Int.mul_le_mul p2 p4 (by omega) (by omega)
  omega
 have hN2 : N ≤ 7200 := by omega
 clear p0 p1;go_enter Tryz.func34,Tryz.ntmps34;have hk : Below w.heap.size w ((w.alloc (.cells #[.int .i64 0,.int .i64 0,.slice none 0 0] 24)).alloc (.cells #[.int .i32 32,.int .i64 0,.int .i64 0,.int .i64 0] 56)) := ((qr _ _).alloc (qd _) _).alloc (by simp) _
 have hcl : Qb ((w.alloc (.cells #[.int .i64 0,.int .i64 0,.slice none 0 0] 24)).alloc (.cells #[.int .i32 32,.int .i64 0,.int .i64 0,.int .i64 0] 56)) (w.heap.size + 1) 0 [blank] := by
  refine Gb (rest := []) (t := 56) ?_;exact heap_alloc2_new w _ _
 have hbk : ((w.alloc (.cells #[.int .i64 0,.int .i64 0,.slice none 0 0] 24)).alloc (.cells #[.int .i32 32,.int .i64 0,.int .i64 0,.int .i64 0] 56)).heap[w.heap.size]? = some (.cells #[.int .i64 0,.int .i64 0,.slice none 0 0] 24 (0,0)) := (Below.heap_alloc _ _ _ (by simp)).trans (heap_alloc_new _ _)
 have HK := qg2 (w.heap.size + 1) 0 1 N blank _ hcl hN1 hN2;generalize hW0 : ((w.alloc (.cells #[.int .i64 0,.int .i64 0,.slice none 0 0] 24)).alloc (.cells #[.int .i32 32,.int .i64 0,.int .i64 0,.int .i64 0] 56)) = W0 at HK hk hbk hcl;have HK' : Hid (Calls qP 60 #[.slice (some ⟨w.heap.size + 1,0,none⟩) 1 1,.int .i64 (N : Int)] W0 fun e w' => ∃ v',e = .returned v' ∧ Y5 w' W0.heap.size v' (qe N blank) ∧ Below W0.heap.size W0 w') := HK
 have HW0 : Hid (((w.alloc (.cells #[.int .i64 0,.int .i64 0,.slice none 0 0] 24)).alloc (.cells #[.int .i32 32,.int .i64 0,.int .i64 0,.int .i64 0] 56)) = W0) := hW0;clear HK hcl hW0
 go_wp2_with (first
  | (go_at_call 38;refine (qbe a q _ H.out _).mono ?_;rintro e W1 ⟨rfl,rfl⟩)
  | (go_at_call 60;rw [HW0.out];refine HK'.out.mono ?_;rintro e W2 ⟨v,rfl,⟨g,cap,rest,t,rfl,hgb,hlc,hcm,hgh⟩,b2⟩;have hr := carry hbk b2)
  | (refine wpList_store_row rfl 24 (.tmp 4) _ rfl w.heap.size #[.int .i64 a,.int .i64 q,.slice (some ⟨g,0,none⟩) N cap] rfl rfl _ _ hr (by kernel_rfl) rfl (q2c _ _ _ _ _) ?_))
 (try simp only [Exit.inBlock,Exit.then])
 have hl : (qe N blank).length = N := by simp
 rw [hl] at hlc;refine bodyPost_ret (v := .tuple #[.agg #[.int .i64 a,.int .i64 q,.slice (some ⟨g,0,none⟩) N cap],.int .i64 0]) ?_ rfl ⟨_,rfl,⟨g,cap,rest,t,by rw [hN,Int.toNat_natCast,hl],by have := hk.size;omega,by rw [hN,Int.toNat_natCast,hl];exact hlc,hcm,?_⟩,below_setRow (hk.trans (b2.mono hk.size)) (qd _) _⟩
 ·exact Qd rfl _ _ w.heap.size _ _ _ _ rfl (setRow_heap _ _ _ _ _ _ hr) Tryz.underlying24 rfl (by kernel_rfl) _ rfl
 ·rw [hN, Int.toNat_natCast, setRow_other _ _ _ _ (by have := hk.size; have := Xj hbk; omega)]
  exact hgh
theorem qxl (r f b x : Int) (w : World) : (binOp .neq 56 (.agg #[.int .i32 r,.int .i64 f,.int .i64 b,.int .i64 x]) (.agg #[.int .i32 r,.int .i64 f,.int .i64 b,.int .i64 x])).run qP w = .ok (.bool false) w := by
 go_simp
theorem qmy (a1 a2 : Option Addr) (c1 c2 : Nat) (w : World) :
  Calls qP 44 #[.slice a1 0 c1,.slice a2 0 c2] w fun e w' => e = .returned (.bool true) ∧ Below w.heap.size w w' := by
 go_enter Tryz.func44,Tryz.ntmps44;go_wp2_with fail;go_loopg [13] 1 (fun g i wr => i = .int .i64 0 ∧ wr = w)
 case atStart => exact ⟨rfl,rfl⟩
 case round =>
  obtain ⟨rfl,rfl⟩ := hrel;go_wp2_with fail;go_ret;exact ⟨rfl,qr _ _⟩
def Apart (N : Nat) (S : List Nat) (w w' : World) : Prop := Below N w w' ∧ ∀ k,k ∉ S → k < w.heap.size → w'.heap[k]? = w.heap[k]?
theorem Apart.size {N : Nat} {S : List Nat} {w w' : World} (h : Apart N S w w') : w.heap.size ≤ w'.heap.size := h.1.size
theorem Apart.refl (N : Nat) (S : List Nat) (w : World) : Apart N S w w := ⟨qr _ _,fun _ _ _ => rfl⟩
theorem Apart.trans {N : Nat} {S : List Nat} {a b c : World} (h : Apart N S a b) (k : Apart N S b c) : Apart N S a c :=
 ⟨h.1.trans k.1,fun i hi hl => (k.2 i hi (Nat.lt_of_lt_of_le hl h.size)).trans (h.2 i hi hl)⟩
theorem Apart.of {N : Nat} {S : List Nat} {a b : World} (h : Below a.heap.size a b) (hN : N ≤ a.heap.size) : Apart N S a b := ⟨h.mono hN,fun i _ hl => h.block i hl⟩
theorem Apart.step {N : Nat} {S : List Nat} {a b c : World} (h : Apart N S a b) (k : Below b.heap.size b c) (hN : N ≤ b.heap.size) : Apart N S a c := h.trans (.of k hN)
theorem Apart.setCell {N : Nat} {S : List Nat} {a b : World} (h : Apart N S a b) (g o : Nat) (v : Value) (hg : g ∈ S) (hN : N ≤ g) : Apart N S a (b.setCell ⟨g, o, none⟩ v) :=
 h.trans ⟨(qr _ _).setCell hN v,fun i hi _ => heap_setCell_other _ _ _ _ (fun e => hi (by rw [e];exact hg))⟩
theorem Zv (g k : Nat) (hne : k ≠ g) : ∀ (vs : List Value) (o : Nat) (w : World), (w.setCells g o vs).heap[k]? = w.heap[k]?
 | [],_,_ => rfl
 | v :: r,o,w => by
  show ((w.setCell ⟨g,o,none⟩ v).setCells g (o + 1) r).heap[k]? = _
  rw [Zv g k hne r (o + 1) _,heap_setCell_other _ _ _ _ hne]
theorem Zr {B g : Nat} {a : World} (hb : B ≤ g) : ∀ (vs : List Value) (o : Nat) (w : World), Below B a w → Below B a (w.setCells g o vs)
 | [],_,_,h => h
 | v :: r,o,_,h => Zr hb r (o + 1) _ (h.setCell hb v)
end Grd
namespace Grd
open Txt (wd)
theorem qoe (b o c : Nat) (cs : List C) (x : Nat) (r : Int) (w : World) (hT : Txt.Tab w) (hx : x < cs.length)
  (h0 : w.cell? ⟨b,o + x * 4,none⟩ = some (.int .i32 r)) (hw : wd r ≠ 2) :
  Calls qP 222 #[.slice (some ⟨b,o,none⟩) cs.length c,.int .i64 (x : Int)] w fun e w' => e = .returned (.bool false) ∧ Below w.heap.size w w' := by
 have HT : Hid (Txt.Tab w) := hT;have nw : (wd r == 2) = false := by simpa using hw
 have y0 : ∀ d os,(Sort.grow (redrawn w d) os).cell? ⟨b,o + x * 4,none⟩ = some (.int .i32 r) := fun d os => cell_regrown h0 d os
 have K4 : Hid (∀ d os,Calls qP 18 #[.int .i32 r] (Sort.grow (redrawn w d) os) fun e w'' => e = .returned (.int .i64 (wd r)) ∧ ∃ p : Regrown,w'' = Sort.grow (redrawn w p.d) p.os) := fun d os => Calls.regrown_of (Txt.Jz r _ (Tab.next HT.out (below_regrown w d os)))
 clear hT hw h0;generalize wd r = v at *;go_enter Tryz.func222,Tryz.ntmps222;go_wp2_with fail;refine wp_region_quiet_below (by kernel_rfl) (by kernel_rfl) ?_
 repeat (first | go_big_quiet_skip | quiet_step (first | (go_at_call 18;exact K4.out _ _)))
 refine wpQuiet_nil ?_;intro _ hw';obtain ⟨⟨dq,os⟩,hw''⟩ := hw';subst hw'';have k3 : Below w.heap.size w (Sort.grow (redrawn w dq) os) := below_regrown w dq os;generalize Sort.grow (redrawn w dq) os = W3 at *;go_wp2_with fail;go_ret;exact ⟨rfl,k3⟩
end Grd
namespace Grd
def setR (cs : List C) (x : Nat) : List C := cs.set x (32,(cs.getD x z0).2)
def U5 (cs : List C) (x : Nat) : List C := if loose cs x then setR cs x else cs
def Xe (cs : List C) : Nat → List C
 | 0 => cs
 | k + 1 => U5 (Xe cs k) k
def Zu (cs : List C) : List C := Xe cs cs.length
theorem qjz (cs : List C) (x : Nat) : (U5 cs x).length = cs.length := by
 unfold U5 setR;split <;> simp
theorem Vh (cs : List C) : ∀ k, (Xe cs k).length = cs.length
 | 0 => rfl
 | k + 1 => by
  show (U5 (Xe cs k) k).length = _
  rw [qjz,Vh cs k]
open Txt (wd)
def Alike (cs : List C) : Prop := ∀ x,x + 1 < cs.length → wd (cs.getD x z0).1 = 2 → (cs.getD (x + 1) z0).1 = 0 → (cs.getD x z0).2 = (cs.getD (x + 1) z0).2
theorem q0e (cs : List C) (x j : Nat) (hx : x < cs.length) : (setR cs x).getD j z0 = if j = x then (32,(cs.getD x z0).2) else cs.getD j z0 := by
 unfold setR;simp only [qy,List.getElem?_set]
 by_cases h : j = x
 ·subst h;simp [hx]
 ·simp [h,Ne.symm h]
theorem qn5 : ∀ (cs : List C) (x : Nat), x < cs.length → (flat cs).set (x * 4) (.int .i32 32) = flat (setR cs x)
 | c :: cs,0,_ => by
  show (words c ++ flat cs).set 0 _ = flat ((32,c.2) :: cs)
  rfl
 | c :: cs,x + 1,h => by
  have ih := qn5 cs x (by simpa using h)
  show (words c ++ flat cs).set ((x + 1) * 4) _ = flat (setR (c :: cs) (x + 1))
  have e : setR (c :: cs) (x + 1) = c :: setR cs x := by simp [setR]
  rw [e]
  show _ = words c ++ flat (setR cs x)
  rw [← ih,List.set_append_right _ _ (by simp [words];omega),show (x + 1) * 4 - (words c).length = x * 4 by simp [words];omega]
theorem qsn (pre post : List Value) (cs : List C) (x : Nat) (h : x < cs.length) : (pre ++ (flat cs ++ post)).set (pre.length + x * 4) (.int .i32 32) = pre ++ (flat (setR cs x) ++ post) := by
 rw [List.set_append_right _ _ (by omega),Nat.add_sub_cancel_left,List.set_append_left _ _ (by rw [Jw];omega),qn5 cs x h]
theorem qmz {w : World} {g : Nat} {cs : List C} {pre post : List Value} {t : TypeId} (h : w.heap[g]? = some (.cells (pre ++ (flat cs ++ post)).toArray t (0,0))) : Qb w g pre.length cs := fun j hj => by
 have key : ∀ i,i < 4 → w.cell? ⟨g,pre.length + j * 4 + i,none⟩ = (words (cs.getD j z0))[i]? := fun i hi => by
  rw [← qfc cs j i hj hi];unfold World.cell?;rw [h];have hl : j * 4 + i < (flat cs).length := by rw [Jw];omega
  simp only [List.getElem?_toArray];rw [Nat.add_assoc,List.getElem?_append_right (by omega),Nat.add_sub_cancel_left,List.getElem?_append_left hl]
  rfl
 exact ⟨key 0 (by omega),key 1 (by omega),key 2 (by omega),key 3 (by omega)⟩
theorem Je {w : World} {g : Nat} {A : Array Value} {t : TypeId} (h : w.heap[g]? = some (.cells A t (0,0))) (i : Nat) : w.frozen? ⟨g,i,none⟩ = false := by simp [World.frozen?,h]
end Grd
namespace Grd
open Txt (wd)
open Sty (Q5)
theorem wd0 : wd 0 = 0 := by decide +kernel
theorem wd32 : wd 32 = 1 := by decide +kernel
theorem qis (r : Int) : 0 ≤ wd r := (Txt.Vo r).1
def putRow (row : List C) (p : Nat → Bool) (f : Nat → C) : List C := (List.range row.length).map fun x => if p x then f x else row.getD x z0
theorem Yj (row : List C) (p : Nat → Bool) (f : Nat → C) : (putRow row p f).length = row.length := by simp [putRow]
theorem Kj (row : List C) (p : Nat → Bool) (f : Nat → C) (x : Nat) (hx : x < row.length) : (putRow row p f).getD x z0 = if p x then f x else row.getD x z0 := by
 simp [putRow,qy,hx]
theorem Ko (a b : List C) (hl : a.length = b.length) (h : ∀ x,x < a.length → a.getD x z0 = b.getD x z0) : a = b := by
 refine List.ext_getElem hl fun i h1 h2 => ?_
 have := h i h1;simp only [qy,List.getElem?_eq_getElem h1,List.getElem?_eq_getElem h2,Option.getD_some] at this;exact this
theorem G6 (cs : List C) (x : Nat) (c : C) (j : Nat) (hx : x < cs.length) : (cs.set x c).getD j z0 = if j = x then c else cs.getD j z0 := by
 simp only [qy,List.getElem?_set]
 by_cases h : j = x
 ·subst h;simp [hx]
 ·simp [h,Ne.symm h]
theorem qx3 (n : Nat) (cs : List C) (k : Nat) : cs.take ((k + 1) * n) = cs.take (k * n) ++ rowAt n cs k := by
 unfold rowAt;rw [Nat.add_mul,Nat.one_mul,List.take_add]
def qbk (cs : List C) : List C := (List.range cs.length).map fun x => if loose cs x then (32,(cs.getD x z0).2) else cs.getD x z0
theorem qbd (cs : List C) : (qbk cs).length = cs.length := by simp [qbk]
theorem Kr (cs : List C) (x : Nat) (hx : x < cs.length) : (qbk cs).getD x z0 = if loose cs x then (32,(cs.getD x z0).2) else cs.getD x z0 := by
 simp [qbk,qy,hx]
theorem qjg (cs : List C) : ∀ k, k ≤ cs.length → ∀ x, x < cs.length → (Xe cs k).getD x z0 = if x < k ∧ loose cs x = true then (32, (cs.getD x z0).2) else cs.getD x z0
 | 0,_,x,hx => by simp [Xe]
 | k + 1,hk,x,hx => by
  have ih := qjg cs k (by omega)
  have hl := Vh cs k;have ek : (Xe cs k).getD k z0 = cs.getD k z0 := by rw [ih k (by omega),if_neg (by simp)]
  have hlo : loose (Xe cs k) k = loose cs k := by
   unfold loose;rw [ek,hl]
   by_cases hr : (cs.getD k z0).1 = 0
   ·rw [if_pos hr, if_pos hr]
    by_cases h0 : k = 0
    ·simp [h0]
    ·have e : (wd ((Xe cs k).getD (k - 1) z0).1 ≠ 2) = (wd (cs.getD (k - 1) z0).1 ≠ 2) := by
      rw [ih (k - 1) (by omega)]
      by_cases hq : loose cs (k - 1) = true
      ·rw [if_pos ⟨by omega, hq⟩]
       have : wd (cs.getD (k - 1) z0).1 ≠ 2 := by
        intro h2;unfold loose at hq;have hn : ¬ (cs.getD (k - 1) z0).1 = 0 := by intro h;rw [h,wd0] at h2;omega
        rw [if_neg hn] at hq;simp only [Bool.and_eq_true,Bool.or_eq_true,decide_eq_true_eq] at hq
        rcases hq.2 with h | h
        ·omega
        ·rw [show k - 1 + 1 = k by omega] at h;exact h hr
       simp [this,wd32,-List.getD_eq_getElem?_getD]
      ·rw [if_neg (fun h => hq h.2)]
     simp only [e]
   ·rw [if_neg hr, if_neg hr]
    by_cases hl2 : k + 1 = cs.length
    ·simp [hl2]
    ·rw [ih (k + 1) (by omega),if_neg (by omega)]
  show (U5 (Xe cs k) k).getD x z0 = _
  unfold U5;rw [hlo]
  by_cases hlk : loose cs k = true
  ·rw [if_pos hlk]
   unfold setR;rw [G6 _ _ _ _ (by rw [hl];omega),ek]
   by_cases hxk : x = k
   ·subst hxk;simp [hlk]
   ·rw [if_neg hxk, ih x hx]
    by_cases hc : x < k ∧ loose cs x = true
    ·rw [if_pos hc,if_pos ⟨by omega,hc.2⟩]
    ·rw [if_neg hc,if_neg (fun h => hc ⟨by omega,h.2⟩)]
  ·rw [if_neg hlk, ih x hx]
   by_cases hc : x < k ∧ loose cs x = true
   ·rw [if_pos hc,if_pos ⟨by omega,hc.2⟩]
   ·rw [if_neg hc, if_neg (fun h => hc ⟨by
     have := h.1
     rcases Nat.lt_or_ge x k with h' | h'
     ·exact h'
     ·exfalso
      obtain rfl : x = k := by omega
      exact hlk h.2,h.2⟩)]
theorem qm8 (cs : List C) : Zu cs = qbk cs :=
 Ko _ _ (by rw [qbd];exact Vh _ _) fun x hx => by
  unfold Zu at hx ⊢;rw [Vh] at hx;rw [qjg cs _ (qd _) x hx,Kr cs x hx]
  by_cases h : loose cs x = true
  ·rw [if_pos ⟨hx,h⟩,if_pos h]
  ·rw [if_neg (fun q => h q.2),if_neg h]
theorem Ka (cs : List C) : (Zu cs).length = cs.length := Vh _ _
def V4 (row : List C) : Prop := ∀ x, x < row.length → ((row.getD x z0).1 ≠ 0 → wd (row.getD x z0).1 ≠ 0) ∧ Q5 (row.getD x z0).2 = true ∧
 ((row.getD x z0).1 = 0 → 0 < x → wd (row.getD (x - 1) z0).1 = 2 → (row.getD x z0).2 = (row.getD (x - 1) z0).2)
theorem V4.alike {row : List C} (h : V4 row) : Alike row := fun x hx h2 h0 => ((h (x + 1) hx).2.2 h0 (by omega) h2).symm
def Q8 (row : List C) : Prop := V4 row ∧ ∀ x,x < row.length → loose row x = false
theorem G9 (row : List C) (h : V4 row) : Q8 (Zu row) := by
 rw [qm8];have hst : ∀ x,x < row.length → ((qbk row).getD x z0).2 = (row.getD x z0).2 := fun x hx => by
  rw [Kr row x hx];split <;> rfl
 have hz : ∀ x,x < row.length → ((qbk row).getD x z0).1 = 0 → (row.getD x z0).1 = 0 ∧ loose row x = false := fun x hx h0 => by
  rw [Kr row x hx] at h0
  by_cases hl : loose row x = true
  ·rw [if_pos hl] at h0;exact absurd (show (32 : Int) = 0 from h0) (by decide)
  ·rw [if_neg hl] at h0;exact ⟨h0,by simpa using hl⟩
 have hw : ∀ x,x < row.length → wd ((qbk row).getD x z0).1 = 2 → wd (row.getD x z0).1 = 2 ∧ loose row x = false := fun x hx h0 => by
  rw [Kr row x hx] at h0
  by_cases hl : loose row x = true
  ·rw [if_pos hl] at h0;dsimp only at h0;rw [wd32] at h0;exact absurd h0 (by decide)
  ·rw [if_neg hl] at h0;exact ⟨h0,by simpa using hl⟩
 refine ⟨fun x hx => ?_,fun x hx => ?_⟩
 ·rw [qbd] at hx
  refine ⟨fun _ => ?_,?_,fun h0 hp h2 => ?_⟩
  ·rw [Kr row x hx] at *
   by_cases hl : loose row x = true
   ·rw [if_pos hl];dsimp only;rw [wd32];decide
   ·rename_i hne
    rw [if_neg hl] at hne ⊢;exact (h x hx).1 hne
  ·rw [hst x hx];exact (h x hx).2.1
  ·rw [hst x hx, hst (x - 1) (by omega)]
   exact (h x hx).2.2 (hz x hx h0).1 hp (hw (x - 1) (by omega) h2).1
 ·rw [qbd] at hx
  unfold loose
  by_cases hr : ((qbk row).getD x z0).1 = 0
  ·rw [if_pos hr]
   obtain ⟨h0,hl⟩ := hz x hx hr;unfold loose at hl;rw [if_pos h0] at hl;simp only [Bool.or_eq_false_iff,decide_eq_false_iff_not,Decidable.not_not] at hl;have hnl : loose row (x - 1) = false := by
    unfold loose;have hn : ¬ (row.getD (x - 1) z0).1 = 0 := by intro h;rw [h,wd0] at hl;exact absurd hl.2 (by decide)
    rw [if_neg hn,show x - 1 + 1 = x by omega,h0]
    simp;intro _;omega
   rw [Kr row (x - 1) (by omega),hnl]
   simp [hl.1,hl.2,-List.getD_eq_getElem?_getD]
  ·rw [if_neg hr]
   by_cases h2 : wd ((qbk row).getD x z0).1 = 2
   ·obtain ⟨hw2, hl⟩ := hw x hx h2
    have hn : ¬ (row.getD x z0).1 = 0 := by intro h;rw [h,wd0] at hw2;exact absurd hw2 (by decide)
    unfold loose at hl;rw [if_neg hn] at hl;simp only [hw2,decide_true,Bool.true_and,Bool.or_eq_false_iff,decide_eq_false_iff_not,Decidable.not_not] at hl;have hnl : loose row (x + 1) = false := by
     unfold loose;rw [if_pos hl.2];simp [hw2,-List.getD_eq_getElem?_getD]
    rw [qbd,Kr row (x + 1) (by omega),hnl]
    simp [hl.1,hl.2,-List.getD_eq_getElem?_getD]
   ·simp [h2,-List.getD_eq_getElem?_getD]
theorem Uo (f : Nat → Int) : ∀ m k, Zg f k m = 0 ↔ ∀ i, i < m → f (k + i) = 0
 | 0,k => by simp [Zg]
 | m + 1,k => by
  show (if f k = 0 then Zg f (k + 1) m else f k) = 0 ↔ _
  by_cases h : f k = 0
  ·rw [if_pos h, Uo f m (k + 1)]
   constructor
   ·intro hh i hi
    rcases i with _ | i
    ·exact h
    ·have := hh i (by omega);rwa [show k + 1 + i = k + (i + 1) by omega] at this
   ·intro hh i hi
    have := hh (i + 1) (by omega);rwa [show k + (i + 1) = k + 1 + i by omega] at this
  ·rw [if_neg h]
   exact ⟨fun e => absurd e h,fun hh => absurd (hh 0 (by omega)) h⟩
theorem Fw (row : List C) (x : Nat) : Xi row x = 0 ↔ ((row.getD x z0).1 ≠ 0 → wd (row.getD x z0).1 ≠ 0) ∧ Q5 (row.getD x z0).2 = true ∧ loose row x = false ∧ ((row.getD x z0).1 = 0 → (row.getD x z0).2 = (row.getD (x - 1) z0).2) := by
 unfold Xi
 by_cases h1 : ((row.getD x z0).1 ≠ 0 ∧ wd (row.getD x z0).1 = 0) ∨ Q5 (row.getD x z0).2 = false
 ·rw [if_pos h1]
  constructor
  ·intro h;exact absurd h (by decide)
  ·intro h
   rcases h1 with h1 | h1
   ·exact absurd h1.2 (h.1 h1.1)
   ·rw [h.2.1] at h1;exact absurd h1 (by decide)
 ·rw [if_neg h1]
  by_cases h2 : loose row x = true ∨ ((row.getD x z0).1 = 0 ∧ (row.getD x z0).2 ≠ (row.getD (x - 1) z0).2)
  ·rw [if_pos h2]
   constructor
   ·intro h;exact absurd h (by decide)
   ·intro h
    rcases h2 with h2 | h2
    ·rw [h.2.2.1] at h2;exact absurd h2 (by decide)
    ·exact absurd (h.2.2.2 h2.1) h2.2
  ·rw [if_neg h2]
   refine ⟨fun _ => ⟨fun h0 hw => h1 (.inl ⟨h0,hw⟩),?_,?_,fun h0 => ?_⟩,fun _ => rfl⟩
   ·cases hs : Q5 (row.getD x z0).2 with
    | true => rfl
    | false => exact absurd (.inr hs) h1
   ·cases hs : loose row x with
    | false => rfl
    | true => exact absurd (.inl hs) h2
   ·exact Decidable.byContradiction fun hne => h2 (.inr ⟨h0,hne⟩)
theorem qd7 (row : List C) : Uu row = 0 ↔ Q8 row := by
 unfold Uu;rw [Uo];constructor
 ·intro h
  refine ⟨fun x hx => ?_,fun x hx => ?_⟩
  ·have := h x hx
   rw [Nat.zero_add,Fw] at this;exact ⟨this.1,this.2.1,fun h0 _ _ => this.2.2.2 h0⟩
  ·have := h x hx
   rw [Nat.zero_add,Fw] at this;exact this.2.2.1
 ·rintro ⟨hm, hl⟩ x hx
  rw [Nat.zero_add,Fw];refine ⟨(hm x hx).1,(hm x hx).2.1,hl x hx,fun h0 => ?_⟩
  have := hl x hx;unfold loose at this;rw [if_pos h0] at this;simp only [Bool.or_eq_false_iff,decide_eq_false_iff_not,Decidable.not_not] at this;exact (hm x hx).2.2 h0 (by omega) this.2
theorem Zd (n hh : Nat) (cs : List C) : Qf n hh cs = 0 ↔ Zk n hh = true ∧ cs.length = n * hh ∧ ∀ y,y < hh → Q8 (rowAt n cs y) := by
 unfold Qf
 by_cases h : Zk (n : Int) hh = false ∨ (cs.length : Int) ≠ (n : Int) * hh
 ·rw [if_pos h]
  constructor
  ·intro e;exact absurd e (by decide)
  ·rintro ⟨h1, h2, _⟩
   rcases h with h | h
   ·rw [h1] at h;exact absurd h (by decide)
   ·exact absurd (by exact_mod_cast h2) h
 ·rw [if_neg h, Uo, Int.toNat_natCast, Int.toNat_natCast]
  have h' := not_or.1 h;refine ⟨fun q => ⟨by simpa using h'.1,by exact_mod_cast Decidable.not_not.1 h'.2,fun y hy => ?_⟩,fun q y hy => ?_⟩
  ·have := q y hy
   rw [Nat.zero_add] at this;exact (qd7 _).1 this
  ·rw [Nat.zero_add]
   exact (qd7 _).2 (q.2.2 y hy)
theorem qdh (row : List C) (p : Nat → Bool) (f : Nat → C) (h : V4 row) (h1 : ∀ x, x < row.length → p x = true → ((f x).1 ≠ 0 → wd (f x).1 ≠ 0) ∧ Q5 (f x).2 = true)
  (h2 : ∀ x,x + 1 < row.length → p x = true → p (x + 1) = true → (f (x + 1)).1 = 0 → wd (f x).1 = 2 → (f (x + 1)).2 = (f x).2)
  (h3 : ∀ x,x + 1 < row.length → p x = false → p (x + 1) = true → (f (x + 1)).1 ≠ 0) (h4 : ∀ x,x + 1 < row.length → p x = true → p (x + 1) = false → wd (f x).1 ≠ 2) : V4 (putRow row p f) := by
 intro x hx;rw [Yj] at hx;rw [Kj _ _ _ _ hx];refine ⟨?_,?_,?_⟩
 ·cases hp : p x with
  | true => exact (h1 x hx hp).1
  | false => exact (h x hx).1
 ·cases hp : p x with
  | true => exact (h1 x hx hp).2
  | false => exact (h x hx).2.1
 ·intro h0 hpos hw
  obtain ⟨u,rfl⟩ : ∃ u,x = u + 1 := ⟨x - 1,by omega⟩
  rw [Nat.add_sub_cancel] at hw ⊢;rw [Kj _ _ _ u (by omega)] at hw ⊢
  cases hp : p (u + 1) with
  | true =>
   rw [hp] at h0
   cases hq : p u with
   | true =>
    rw [hq] at hw;exact h2 u hx hq hp h0 hw
   | false => exact absurd h0 (h3 u hx hq hp)
  | false =>
   rw [hp] at h0
   cases hq : p u with
   | true =>
    rw [hq] at hw;exact absurd hw (h4 u hx hq hp)
   | false =>
    rw [hq] at hw;exact (h (u + 1) hx).2.2 h0 hpos hw
theorem qgm (row : List C) (p : Nat → Bool) (c : C) (h : V4 row) (hc : wd c.1 = 1) (hs : Q5 c.2 = true) : V4 (putRow row p fun _ => c) := by
 have hn : c.1 ≠ 0 := by intro h;rw [h,wd0] at hc;exact absurd hc (by decide)
 have hw : wd c.1 ≠ 2 := by rw [hc];decide
 exact qdh row p _ h (fun x _ _ => ⟨fun _ => by rw [hc];decide,hs⟩) (fun x _ _ _ h0 _ => absurd h0 hn) (fun x _ _ _ => hn) (fun x _ _ _ => hw)
def Va (look : Int × Int × Int) (row : List C) (x : Nat) (r : Int) : List C :=
 if wd r = 0 then row else if wd r = 2 then (row.set x (r,look)).set (x + 1) (0,look) else row.set x (r,look)
theorem qk3 (look : Int × Int × Int) (row : List C) (x : Nat) (r : Int) : (Va look row x r).length = row.length := by
 unfold Va;repeat' split
 all_goals simp
theorem qiq (look : Int × Int × Int) (row : List C) (x : Nat) (r : Int) (h : V4 row) (hs : Q5 look = true) (hr : wd r ≤ (row.length : Int) - x) : V4 (Va look row x r) := by
 unfold Va
 by_cases h0 : wd r = 0
 ·rw [if_pos h0];exact h
 ·rw [if_neg h0]
  have hn : r ≠ 0 := by intro h;rw [h,wd0] at h0;exact h0 rfl
  have hpos := qis r
  by_cases h2 : wd r = 2
  ·rw [if_pos h2]
   have e : (row.set x (r,look)).set (x + 1) (0,look) = putRow row (fun j => decide (j = x ∨ j = x + 1)) (fun j => if j = x then (r,look) else (0,look)) := by
    refine Ko _ _ (by simp [Yj]) fun j hj => ?_
    rw [List.length_set,List.length_set] at hj;rw [G6 _ _ _ _ (by rw [List.length_set];omega),G6 _ _ _ _ (by omega),Kj _ _ _ _ hj]
    by_cases h1 : j = x + 1
    ·subst h1;simp
    ·by_cases h3 : j = x
     ·subst h3;simp
     ·simp [h1,h3]
   rw [e];refine qdh row _ _ h (fun j hj hp => ?_) (fun j hj hp hq hz hw => ?_) (fun j hj hp hq => ?_) (fun j hj hp hq => ?_)
   ·by_cases h3 : j = x
    ·rw [if_pos h3];exact ⟨fun _ => h0,hs⟩
    ·rw [if_neg h3];exact ⟨fun h => absurd rfl h,hs⟩
   ·simp only [decide_eq_true_eq] at hp hq
    by_cases h3 : j = x
    ·rw [if_pos h3,if_neg (by omega)]
    ·rw [if_neg h3] at hw;dsimp only at hw;rw [wd0] at hw;exact absurd hw (by decide)
   ·simp only [decide_eq_true_eq, decide_eq_false_iff_not] at hp hq
    rw [if_pos (by omega)];exact hn
   ·simp only [decide_eq_true_eq, decide_eq_false_iff_not] at hp hq
    rw [if_neg (by omega),wd0];decide
  ·rw [if_neg h2]
   have e : row.set x (r,look) = putRow row (fun j => decide (j = x)) (fun _ => (r,look)) := by
    refine Ko _ _ (by simp [Yj]) fun j hj => ?_
    rw [List.length_set] at hj;rw [G6 _ _ _ _ (by omega),Kj _ _ _ _ hj]
    by_cases h3 : j = x
    ·subst h3;simp
    ·simp [h3]
   rw [e];have h1 : wd r ≠ 2 := h2;exact qdh row _ _ h (fun j hj hp => ⟨fun _ => h0,hs⟩) (fun j hj hp hq hz hw => absurd hz hn) (fun j hj hp hq => hn) (fun j hj hp hq => h1)
theorem qe7 (n : Nat) : Q8 (qe n (32,0,0,0)) := by
 have hg : ∀ x,x < n → (qe n ((32,0,0,0) : C)).getD x z0 = (32,0,0,0) := fun x hx => by simp [qy,hx]
 refine ⟨fun x hx => ?_,fun x hx => ?_⟩
 ·rw [List.length_replicate] at hx
  rw [hg x hx];exact ⟨fun _ => by dsimp only;rw [wd32];decide,by decide,fun h => absurd h (by decide)⟩
 ·rw [List.length_replicate] at hx
  unfold loose;rw [hg x hx,if_neg (by decide)]
  dsimp only
  rw [wd32]
  rfl
end Grd
open Go.ChangeShapes Go.WideShapes Go.ChangeAt Go.RowKit Go.Maps
namespace Txt
end Txt
end Go.Proofs.YtooobiigijphkaaGreatDoor
namespace Go.Proofs
open Go.Shelf
def Tryz.qet : Go.Shelf.Ren := ⟨fun | 168 => 70 | 240 => 117 | 242 => 118 | 276 => 176 | 278 => 177 | n => n,fun | 0 => 0 | 3 => 3 | 4 => 4 | 5 => 5 | 9 => 9 | 20 => 20 | 21 => 21 | 37 => 113 | 46 => 133 | 51 => 164 | 70 => 112 | 72 => 115 | 75 => 117 | 80 => 120 | 164 => 174 | n => n,fun | n => n⟩
theorem Tryz.qzg : Go.Proofs.Lays.n168 qP Tryz.qet := {
 mixed := by kernel_rfl
 f168 := Tryz.func70.trans (congrArg some (by kernel_rfl))
 f240 := Tryz.func117.trans (congrArg some (by kernel_rfl))
 f242 := Tryz.func118.trans (congrArg some (by kernel_rfl))
 f276 := Tryz.func176.trans (congrArg some (by kernel_rfl))
 f278 := Tryz.func177.trans (congrArg some (by kernel_rfl))
 t0 := Tryz.underlying0
 a0 := Tryz.isAgg0
 z0 := Tryz.sizeOf0
 v0 := Tryz.zeroValue0
 t3 := Tryz.underlying3
 a3 := Tryz.isAgg3
 z3 := Tryz.sizeOf3
 v3 := Tryz.zeroValue3
 t4 := Tryz.underlying4
 a4 := Tryz.isAgg4
 z4 := Tryz.sizeOf4
 v4 := Tryz.zeroValue4
 t5 := Tryz.underlying5
 a5 := Tryz.isAgg5
 z5 := Tryz.sizeOf5
 v5 := Tryz.zeroValue5
 t9 := Tryz.underlying9
 a9 := Tryz.isAgg9
 z9 := Tryz.sizeOf9
 v9 := Tryz.zeroValue9
 t20 := Tryz.underlying20
 a20 := Tryz.isAgg20
 z20 := Tryz.sizeOf20
 v20 := Tryz.zeroValue20
 t21 := Tryz.underlying21
 a21 := Tryz.isAgg21
 z21 := Tryz.sizeOf21
 v21 := Tryz.zeroValue21
 t37 := Tryz.underlying113
 a37 := Tryz.isAgg113
 z37 := Tryz.sizeOf113
 v37 := Tryz.zeroValue113
 t46 := Tryz.underlying133
 a46 := Tryz.isAgg133
 z46 := Tryz.sizeOf133
 v46 := Tryz.zeroValue133
 t51 := Tryz.underlying164
 a51 := Tryz.isAgg164
 z51 := Tryz.sizeOf164
 v51 := Tryz.zeroValue164
 t70 := Tryz.underlying112
 a70 := Tryz.isAgg112
 z70 := Tryz.sizeOf112
 v70 := Tryz.zeroValue112
 t72 := Tryz.underlying115
 a72 := Tryz.isAgg115
 z72 := Tryz.sizeOf115
 v72 := Tryz.zeroValue115
 t75 := Tryz.underlying117
 a75 := Tryz.isAgg117
 z75 := Tryz.sizeOf117
 v75 := Tryz.zeroValue117
 t164 := Tryz.underlying174
 a164 := Tryz.isAgg174
 z164 := Tryz.sizeOf174
 v164 := Tryz.zeroValue174
}
theorem Tryz.qcd : Builder.Extra qP Tryz.qet := {
 sizeBuilder := by kernel_rfl
 liesBuilder := by kernel_rfl
 t5 := Tryz.underlying5
 a5 := Tryz.isAgg5
 z5 := Tryz.sizeOf5
 v5 := Tryz.zeroValue5
 infoByte := by kernel_rfl
 cellsByte := by kernel_rfl
 sizeByte := by kernel_rfl
 neB5 := by decide }
open Go.RowKit in
theorem Tryz.Builder_WriteRune_k (B b : Nat) (bs : List Value) (r : Int) (hr0 : -2147483648 ≤ r) (hr1 : r ≤ 2147483647) (w : World) (h : Lib.IsBuilderF 115 5 B b bs w) (hlen : bs.length + 4 ≤ 140737488355328) (hBw : B ≤ w.heap.size) :
  Calls qP 70 #[.pointer (some ⟨b,0,none⟩),.int .i32 r] w fun e w' => e = .returned (.tuple #[.int .i64 (Lib.runeCells r).length,.nilIface]) ∧ (Lib.BuilderAtF 115 5 B b (.pointer (some ⟨b,0,none⟩)) (bs ++ Lib.runeCells r) w' ∧ Below B w w' ∧ Lib.OthersKept 5 (some b) w w') := Any.Builder_WriteRune_k Tryz.qzg Tryz.qcd B b bs r hr0 hr1 w h hlen hBw
end Go.Proofs
namespace Go.Proofs.YtooobiigijphkaaGreatDoor
set_option linter.unusedVariables false
set_option linter.unusedSimpArgs false
set_option maxRecDepth 100000
open Go.ChangeShapes Go.WideShapes Go.ChangeAt Go.RowKit Go.Maps
namespace Txt
def Xq : List (Int × Nat) → List UInt8
 | [] => []
 | x :: t => (if 0 < wd x.1 then Lib.encodeRune x.1 else []) ++ Xq t
theorem Ul (r : Int) : 1 ≤ (Lib.encodeRune r).length ∧ (Lib.encodeRune r).length ≤ 4 := by
 rw [← Lib.runeCells_length];exact Lib.runeCells_le r
theorem encode_eq (r : Int) : Utf8.encode r = bs (Lib.encodeRune r) := by
 by_cases h1 : 0 ≤ r ∧ r ≤ 127
 ·have hv : Utf8.valid r = true := by simp [Utf8.valid]; omega
  simp only [Utf8.encode,hv,if_true];rw [if_pos (by omega)]
  unfold Lib.encodeRune;rw [Lib.encodeRuneZ_one h1.1 h1.2]
  rfl
 ·by_cases h2 : 128 ≤ r ∧ r ≤ 2047
  ·have hv : Utf8.valid r = true := by simp [Utf8.valid]; omega
   simp only [Utf8.encode,hv,if_true];rw [if_neg (by omega),if_pos (by omega)]
   unfold Lib.encodeRune;rw [Lib.encodeRuneZ_two h2.1 h2.2,show 0xC0 + r.toNat / 64 = (192 + r / 64).toNat by omega,show 0x80 + r.toNat % 64 = (128 + r % 64).toNat by omega]
   rfl
  ·by_cases h3 : (2048 ≤ r ∧ r < 55296) ∨ (57343 < r ∧ r ≤ 65535)
   ·have hv : Utf8.valid r = true := by simp [Utf8.valid]; omega
    simp only [Utf8.encode,hv,if_true];rw [if_neg (by omega),if_neg (by omega),if_pos (by omega)]
    unfold Lib.encodeRune;rw [Lib.encodeRuneZ_three h3,show 0xE0 + r.toNat / 4096 = (224 + r / 4096).toNat by omega,show 0x80 + r.toNat / 64 % 64 = (128 + r / 64 % 64).toNat by omega,show 0x80 + r.toNat % 64 = (128 + r % 64).toNat by omega]
    rfl
   ·by_cases h4 : 65536 ≤ r ∧ r ≤ 1114111
    ·have hv : Utf8.valid r = true := by simp [Utf8.valid]; omega
     simp only [Utf8.encode,hv,if_true];rw [if_neg (by omega),if_neg (by omega),if_neg (by omega)]
     unfold Lib.encodeRune;rw [Lib.encodeRuneZ_four h4.1 h4.2,show 0xF0 + r.toNat / 262144 = (240 + r / 262144).toNat by omega,show 0x80 + r.toNat / 4096 % 64 = (128 + r / 4096 % 64).toNat by omega,show 0x80 + r.toNat / 64 % 64 = (128 + r / 64 % 64).toNat by omega,show 0x80 + r.toNat % 64 = (128 + r % 64).toNat by omega]
     rfl
    ·have hv : Utf8.valid r = false := by simp [Utf8.valid]; omega
     unfold Lib.encodeRune;rw [Lib.encodeRuneZ_bad (by omega)]
     simp only [Utf8.encode,hv,Utf8.runeError,Bool.false_eq_true,if_false]
     decide
theorem qbm {T e : TypeId} {B b : Nat} {bs : List Value} {w w' : World} (h : Lib.IsBuilderF T e B b bs w) (hb : Below w.heap.size w w') : Lib.IsBuilderF T e B b bs w' := by
 have key : ∀ p,Lib.BuilderAtF T e B b p bs w → Lib.BuilderAtF T e B b p bs w' := by
  rintro p ⟨hB,v,hh,hown,hne⟩;refine ⟨hB,v,by rw [hb.block b (Array.getElem?_eq_some_iff.1 hh).1];exact hh,⟨hown.1,?_⟩,hne⟩
  rcases hown.2 with hn | ⟨g,cap,cur,fz,hv,hbg,hg,rest⟩
  ·exact .inl hn
  ·exact .inr ⟨g,cap,cur,fz,hv,hbg,by rw [hb.block g (Array.getElem?_eq_some_iff.1 hg).1];exact hg,rest⟩
 exact h.elim (fun x => .inl (key _ x)) (fun x => .inr (key _ x))
set_option maxRecDepth 1000000 in
theorem qjf (s : ByteArray) (w : World) (hT : Tab w) (hs : s.size ≤ 17592186044416) :
  Calls qP 42 #[.string s] w fun e w' => e = .returned (.string (bs (Xq (runes s)))) ∧ Below w.heap.size w w' := by
 have HP : Hid (0 < w.heap.size) := hT.pos;have HT : Hid (Tab w) := hT;clear hT;go_enter Tryz.func42,Tryz.ntmps42;go_wp2;go_loopw [] (fun wr => ∃ (pos f : Nat) (acc : List UInt8),Lib.IsBuilderF 115 5 w.heap.size w.heap.size (Lib.byteCells acc) wr ∧ wr.heap[w.heap.size + 1]? = some (.stringIter s pos) ∧ Below w.heap.size w wr ∧ acc ++ Xq (rs s f pos) = Xq (runes s) ∧ s.size ≤ pos + f ∧ acc.length ≤ 4 * pos ∧ pos ≤ s.size) (fun wr => s.size - wr.iterPos (w.heap.size + 1))
 case atStart =>
  refine ⟨0,s.size,[],(Lib.IsBuilderF.of (Lib.fresh_isBuilder 115 5 w)).alloc _,?_,((qr _ w).alloc (qd _) _).alloc (by simp) _,by simp [runes],by omega,by simp,by omega⟩
  have := World.iter_heap (w.alloc (.cells #[.pointer none,.slice none 0 0] 115)) s 0;simpa using this
 case round =>
  obtain ⟨pos,f,acc,hI,hit,hbw,hacc,hf,hal,hps⟩ := hrel;have HC : Hid (acc ++ Xq (rs s f pos) = Xq (runes s)) := hacc;clear hacc;have hsz : w.heap.size + 1 < wr.heap.size := (Array.getElem?_eq_some_iff.1 hit).1
  by_cases hp : pos < s.size
  ·have hnx : ∀ ty, (Instr.next (.pointer (some ⟨w.heap.size + 1, 0, none⟩)) true ty).run qP wr = _ := fun ty => Lib.run_next_any_at wr (w.heap.size + 1) s pos ty hit hp
   have hwd := width_pos s pos hp;have hfit := qef s pos hp;have hd1 := decode_le s pos;obtain ⟨f,rfl⟩ : ∃ g,f = g + 1 := ⟨f - 1,by omega⟩
   have HR : Hid (rs s (f + 1) pos = (((Utf8.decode s pos).1 : Int),(Utf8.decode s pos).2) :: rs s f (pos + (Utf8.decode s pos).2)) := qkd s f pos hp;have hw := Vo (Utf8.decode s pos).1;have hI2 := hI.iterAt hit (pos + (Utf8.decode s pos).2);have hit2 := Lib.iterAt_heap wr (w.heap.size + 1) s pos (pos + (Utf8.decode s pos).2) hit;have hbw2 := Lib.below_iterAt hbw (k := w.heap.size + 1) (by omega) s (pos + (Utf8.decode s pos).2)
   have hsz2 : w.heap.size + 1 < (wr.iterAt (w.heap.size + 1) s (pos + (Utf8.decode s pos).2)).heap.size := by rw [Lib.iterAt_size];exact hsz
   have HI : Hid (wr.iterPos (w.heap.size + 1) = pos) := by simp only [Hid,World.iterPos,hit]
   clear hit hI;generalize Utf8.decode s pos = d at *
   by_cases hpos : 0 < wd d.1
   ·go_wp2_with (first
     | (go_at_call 18;refine (Jz _ _ (HT.out.below hbw2 (by have := HP.out;omega))).mono ?_;rintro e W1 ⟨rfl,b1⟩)
     | (go_at_call 70;refine (Tryz.Builder_WriteRune_k w.heap.size w.heap.size _ _ (by omega) (by omega) _ (qbm hI2 b1) (by rw [Lib.byteCells_length];omega) (by have := b1.size;omega)).mono ?_;rintro e W2 ⟨rfl,h2,b2,k2⟩))
    have hit3 := k2.iter ((b1.block _ hsz2).trans hit2) (by omega)
    have hl4 := Ul d.1;go_roundw
    case rel =>
     refine ⟨pos + d.2,f,acc ++ Lib.encodeRune d.1,?_,hit3,(hbw2.trans (b1.mono (by omega))).trans b2,?_,by omega,by simp;omega,by omega⟩
     ·rw [Lib.byteCells_append,Lib.byteCells_encodeRune];exact Or.inr h2
     ·rw [← HC.out,HR.out];simp [Xq,hpos]
    case measure =>
     rw [HI.out];simp only [World.iterPos,hit3];omega
   ·have hz : ¬ 0 < wd d.1 := hpos
    go_wp2_with (go_at_call 18;refine (Jz _ _ (HT.out.below hbw2 (by have := HP.out;omega))).mono ?_;rintro e W1 ⟨rfl,b1⟩)
    go_roundw
    case rel =>
     refine ⟨pos + d.2,f,acc,qbm hI2 b1,(b1.block _ hsz2).trans hit2,hbw2.trans (b1.mono (by omega)),?_,by omega,by omega,by omega⟩
     rw [← HC.out,HR.out];simp only [Xq];rw [if_neg (by omega)];rfl
    case measure =>
     rw [HI.out];simp only [World.iterPos,(b1.block _ hsz2).trans hit2];omega
  ·have hnx : ∀ ty, (Instr.next (.pointer (some ⟨w.heap.size + 1, 0, none⟩)) true ty).run qP wr = _ := fun ty => Lib.run_next_end_at wr (w.heap.size + 1) s pos ty hit hp
   go_wp2_with (go_at_call 71;refine (Tryz.Builder_String_any_k w.heap.size w.heap.size acc _ hI (by omega)).mono ?_;rintro e W1 ⟨rfl,_,b1,_⟩)
   go_ret;have := HC.out;rw [qq0 s f pos hp,Xq,List.append_nil] at this;subst this;exact ⟨rfl,hbw.trans b1⟩
end Txt
open Go.ChangeShapes Go.WideShapes Go.ChangeAt Go.RowKit
namespace Put
open Grd (C SliceAt Qb Qf z0)
open Sty (Q5)
open Txt (wd)
structure Scr where
 w : Int
 h : Int
 cs : List C
 x : Int
 y : Int
 late : Bool
 sf : Int
 sb : Int
 sx : Int
 top : Int
 bot : Int
 modes : Int
 tabs : List Bool
 kx : Int
 ky : Int
 kf : Int
 kb : Int
 kbits : Int
 km : Int
 last : Int
 title : ByteArray
 gone : List (List C)
def scrA (s : Scr) (cv tv gv : Value) : Array Value := #[.int .i64 s.w,.int .i64 s.h,cv,.int .i64 s.x,.int .i64 s.y,.bool s.late,.int .i64 s.sf,.int .i64 s.sb,.int .i64 s.sx,.int .i64 s.top,.int .i64 s.bot,.int .i64 s.modes,tv,.int .i64 s.kx,.int .i64 s.ky,.int .i64 s.kf,.int .i64 s.kb,.int .i64 s.kbits,.int .i64 s.km,.int .i32 s.last,.string s.title,gv]
abbrev zA : Array Value := #[.int .i64 0,.int .i64 0,.slice none 0 0,.int .i64 0,.int .i64 0,.bool false,.int .i64 0,.int .i64 0,.int .i64 0,.int .i64 0,.int .i64 0,.int .i64 0,.slice none 0 0,.int .i64 0,.int .i64 0,.int .i64 0,.int .i64 0,.int .i64 0,.int .i64 0,.int .i32 0,.string ⟨#[]⟩,.slice none 0 0]
abbrev scS (s : Scr) (ca : Option Addr) (cc : Nat) (ta : Option Addr) (tc : Nat) (ga : Option Addr) (gc : Nat) : Array Value := scrA s (.slice ca s.cs.length cc) (.slice ta s.tabs.length tc) (.slice ga s.gone.length gc)
abbrev scT (s : Scr) (a : Option Addr) (b c : Nat) (d : Option Addr) (e f : Nat) (g : Option Addr) (h i : Nat) : Array Value := scrA s (.slice a b c) (.slice d e f) (.slice g h i)
def Vx (w : World) (v : Value) (l : List Bool) : Prop := (l = [] ∧ ∃ p c,v = .slice p 0 c) ∨ ∃ b o c,v = .slice (some ⟨b,o,none⟩) l.length c ∧ l.length ≤ c ∧ c ≤ 9223372036854775807 ∧ ∀ j,j < l.length → w.cell? ⟨b,o + j,none⟩ = some (.bool (l.getD j false))
def Vw (w : World) (v : Value) (l : List (List C)) : Prop := (l = [] ∧ ∃ p c,v = .slice p 0 c) ∨ ∃ b o c,v = .slice (some ⟨b,o,none⟩) l.length c ∧ l.length ≤ c ∧ c ≤ 9223372036854775807 ∧ ∀ j,j < l.length → ∃ rv,w.cell? ⟨b,o + j,none⟩ = some rv ∧ SliceAt w rv (l.getD j [])
theorem Qa {w w' : World} (hb : Below w.heap.size w w') {a : Addr} {v : Value} (h : w.cell? a = some v) : w'.cell? a = some v := Grd.Qk hb h
theorem Vx.next {w w' : World} {v : Value} {l : List Bool} (h : Vx w v l) (hb : Below w.heap.size w w') : Vx w' v l := by
 rcases h with h | ⟨b,o,c,hv,h1,h2,hc⟩
 ·exact .inl h
 ·exact .inr ⟨b,o,c,hv,h1,h2,fun j hj => Qa hb (hc j hj)⟩
theorem Vx.slice {w : World} {v : Value} {l : List Bool} (h : Vx w v l) : ∃ p c,v = .slice p l.length c := by
 rcases h with ⟨rfl,p,c,rfl⟩ | ⟨b,o,c,rfl,-⟩
 ·exact ⟨p,c,rfl⟩
 ·exact ⟨_,c,rfl⟩
theorem Vw.next {w w' : World} {v : Value} {l : List (List C)} (h : Vw w v l) (hb : Below w.heap.size w w') : Vw w' v l := by
 rcases h with h | ⟨b,o,c,hv,h1,h2,hc⟩
 ·exact .inl h
 ·refine .inr ⟨b, o, c, hv, h1, h2, fun j hj => ?_⟩
  obtain ⟨rv,h1,h2⟩ := hc j hj;exact ⟨rv,Qa hb h1,h2.below hb⟩
theorem Vw.slice {w : World} {v : Value} {l : List (List C)} (h : Vw w v l) : ∃ p c,v = .slice p l.length c := by
 rcases h with ⟨rfl,p,c,rfl⟩ | ⟨b,o,c,rfl,-⟩
 ·exact ⟨p,c,rfl⟩
 ·exact ⟨_,c,rfl⟩
structure Zh (W : World) (s : Scr) (cv tv gv : Value) : Prop where
 c : SliceAt W cv s.cs
 t : Vx W tv s.tabs
 g : Vw W gv s.gone
theorem Zh.next {W W' : World} {s : Scr} {cv tv gv : Value} (h : Zh W s cv tv gv) (hb : Below W.heap.size W W') : Zh W' s cv tv gv := ⟨h.c.below hb,h.t.next hb,h.g.next hb⟩
theorem qr4 {W : World} {R : Nat} {t : TypeId} {v0 v1 v2 v3 v4 v5 v6 v7 v8 v9 v10 v11 v12 v13 v14 v15 v16 v17 v18 v19 v20 v21 : Value} (h : W.heap[R]? = some (.cells #[v0, v1, v2, v3, v4, v5, v6, v7, v8, v9, v10, v11, v12, v13, v14, v15, v16, v17, v18, v19, v20, v21] t (0, 0))) :
  (W.cell? ⟨R,0,none⟩ = some v0 ∧ W.cell? ⟨R,1,none⟩ = some v1 ∧ W.cell? ⟨R,2,none⟩ = some v2 ∧ W.cell? ⟨R,3,none⟩ = some v3 ∧ W.cell? ⟨R,4,none⟩ = some v4 ∧ W.cell? ⟨R,5,none⟩ = some v5 ∧ W.cell? ⟨R,6,none⟩ = some v6 ∧ W.cell? ⟨R,7,none⟩ = some v7 ∧ W.cell? ⟨R,8,none⟩ = some v8 ∧ W.cell? ⟨R,9,none⟩ = some v9 ∧ W.cell? ⟨R,10,none⟩ = some v10) ∧
  (W.cell? ⟨R,11,none⟩ = some v11 ∧ W.cell? ⟨R,12,none⟩ = some v12 ∧ W.cell? ⟨R,13,none⟩ = some v13 ∧ W.cell? ⟨R,14,none⟩ = some v14 ∧ W.cell? ⟨R,15,none⟩ = some v15 ∧ W.cell? ⟨R,16,none⟩ = some v16 ∧ W.cell? ⟨R,17,none⟩ = some v17 ∧ W.cell? ⟨R,18,none⟩ = some v18 ∧ W.cell? ⟨R,19,none⟩ = some v19 ∧ W.cell? ⟨R,20,none⟩ = some v20 ∧ W.cell? ⟨R,21,none⟩ = some v21) ∧ ∀ i,W.frozen? ⟨R,i,none⟩ = false := by
 refine ⟨?_,?_,fun i => by simp [World.frozen?,h]⟩ <;> simp [World.cell?,h]
theorem Qi {W : World} {R : Nat} {t : TypeId} {s : Scr} {cv tv gv : Value} (h : W.heap[R]? = some (.cells (scrA s cv tv gv) t (0, 0))) :
  (W.cell? ⟨R,0,none⟩ = some (.int .i64 s.w) ∧ W.cell? ⟨R,1,none⟩ = some (.int .i64 s.h) ∧ W.cell? ⟨R,2,none⟩ = some (cv) ∧ W.cell? ⟨R,3,none⟩ = some (.int .i64 s.x) ∧ W.cell? ⟨R,4,none⟩ = some (.int .i64 s.y) ∧ W.cell? ⟨R,5,none⟩ = some (.bool s.late) ∧ W.cell? ⟨R,6,none⟩ = some (.int .i64 s.sf) ∧ W.cell? ⟨R,7,none⟩ = some (.int .i64 s.sb) ∧ W.cell? ⟨R,8,none⟩ = some (.int .i64 s.sx) ∧ W.cell? ⟨R,9,none⟩ = some (.int .i64 s.top) ∧ W.cell? ⟨R,10,none⟩ = some (.int .i64 s.bot)) ∧
  (W.cell? ⟨R,11,none⟩ = some (.int .i64 s.modes) ∧ W.cell? ⟨R,12,none⟩ = some (tv) ∧ W.cell? ⟨R,13,none⟩ = some (.int .i64 s.kx) ∧ W.cell? ⟨R,14,none⟩ = some (.int .i64 s.ky) ∧ W.cell? ⟨R,15,none⟩ = some (.int .i64 s.kf) ∧ W.cell? ⟨R,16,none⟩ = some (.int .i64 s.kb) ∧ W.cell? ⟨R,17,none⟩ = some (.int .i64 s.kbits) ∧ W.cell? ⟨R,18,none⟩ = some (.int .i64 s.km) ∧ W.cell? ⟨R,19,none⟩ = some (.int .i32 s.last) ∧ W.cell? ⟨R,20,none⟩ = some (.string s.title) ∧ W.cell? ⟨R,21,none⟩ = some (gv)) ∧ ∀ i,W.frozen? ⟨R,i,none⟩ = false := qr4 h
def hasC (w h x y : Int) : Bool := decide (0 ≤ x) && (decide (x < w) && (decide (0 ≤ y) && decide (y < h)))
def Kz (h top bot : Int) : Bool := decide (0 ≤ top) && (decide (top ≤ bot) && (decide (bot < h) && (decide (top < bot) || decide (h = 1))))
def J6 (t : ByteArray) : Bool := (t.toList == (Txt.bs (Txt.Xq (Txt.runes t))).toList) && decide (Lib.runeCount t ≤ 20)
def Xu (l : List (List C)) : Bool := l.any fun row => !decide (Qf row.length 1 row = 0)
def X8 (l : List (List C)) : Int := if 50 < l.length then 2 else if Xu l then 5 else 0
theorem Qh {a b : Bool} (h : a = b) : Ending.returned (.bool a) = Ending.returned (.bool b) := by rw [h]
theorem Q6 {a b : Int} (h : a = b) : Ending.returned (.int .i64 a) = Ending.returned (.int .i64 b) := by rw [h]
theorem Un (a h : Int) (cv : Value) (x y : Int) (w : World) : Calls qP 15 #[.agg #[.int .i64 a,.int .i64 h,cv],.int .i64 x,.int .i64 y] w fun e w' => e = .returned (.bool (hasC a h x y)) ∧ Below w.heap.size w w' := by
 have x0 := heap_alloc_new w (.cells #[.int .i64 a,.int .i64 h,cv] 24);obtain ⟨c0,c1,c2,-⟩ := Grd.cells3 x0;have kb : Below w.heap.size w (w.alloc (.cells #[.int .i64 a,.int .i64 h,cv] 24)) := (qr _ _).alloc (qd _) _;have HKB : Hid _ := kb;clear kb x0;go_enter Tryz.func15,Tryz.ntmps15;go_wp2
 all_goals (go_ret;refine ⟨Qh ?_,HKB.out⟩;clear c0 c1 c2)
 all_goals (unfold hasC;rw [Bool.eq_iff_iff];simp;try omega)
theorem qhr (s : Scr) (cv tv gv : Value) (w : World) : Calls qP 16 #[.agg (scrA s cv tv gv)] w fun e w' => e = .returned (.bool (Kz s.h s.top s.bot)) ∧ Below w.heap.size w w' := by
 have x0 := heap_alloc_new w (.cells (scrA s cv tv gv) 32);have kb : Below w.heap.size w (w.alloc (.cells (scrA s cv tv gv) 32)) := (qr _ _).alloc (qd _) _;unfold scrA at x0 kb ⊢;obtain ⟨⟨c0,c1,c2,c3,c4,c5,c6,c7,c8,c9,c10⟩,-,-⟩ := qr4 x0;have HKB : Hid _ := kb;clear kb x0 c0 c2 c3 c4 c5 c6 c7 c8;go_enter Tryz.func16,Tryz.ntmps16;go_wp2
 all_goals (go_ret;refine ⟨Qh ?_,HKB.out⟩;clear c1 c9 c10)
 all_goals (unfold Kz;rw [Bool.eq_iff_iff];simp;try omega)
theorem qqp (w : World) (t : ByteArray) (pos : Nat) : Below w.heap.size w (w.iter t pos) := by
 exact (qr _ w).alloc (qd _) _
theorem Jp (t : ByteArray) (w : World) (hT : Txt.Tab w) (ht : t.size ≤ 1048576) : Calls qP 19 #[.string t] w fun e w' => e = .returned (.bool (J6 t)) ∧ Below w.heap.size w w' := by
 have HC := Txt.qjf t w hT (by omega)
 have HE : Hid (J6 t = ((t.toList == (Txt.bs (Txt.Xq (Txt.runes t))).toList) && decide (Lib.runeCount t ≤ 20))) := rfl;generalize J6 t = res at HE ⊢;generalize Txt.bs (Txt.Xq (Txt.runes t)) = u at HC HE;have HRC := fun W => Tryz.utf8_RuneCountInString t W (by omega)
 clear hT
 cases hq : (t.toList == u.toList) with
 | false =>
  rw [hq] at HE;go_enter Tryz.func19,Tryz.ntmps19;go_wp2_with fail;refine HC.mono ?_;rintro e W1 ⟨rfl,b1⟩;go_wp2_with fail;go_ret;exact ⟨Qh (by rw [HE.out];rfl),b1⟩
 | true =>
  rw [hq,Bool.true_and] at HE;go_enter Tryz.func19,Tryz.ntmps19;go_wp2_with fail;refine HC.mono ?_;rintro e W1 ⟨rfl,b1⟩;go_wp2_with fail;refine (HRC W1).mono ?_;rintro e W2 ⟨rfl,pos,hW2⟩;have b2 : Below W1.heap.size W1 W2 := by rw [hW2];exact qqp _ _ _
  clear hW2;go_wp2_with fail;go_ret;refine ⟨Qh ?_,b1.trans (b2.mono b1.size)⟩;rw [HE.out,decide_eq_decide];omega
theorem qx1 {α : Type} (p : α → Bool) (l : List α) (k : Nat) (h : k < l.length) (d : α) : (l.drop k).any p = (p (l.getD k d) || (l.drop (k + 1)).any p) := by
 rw [List.drop_eq_getElem_cons h,List.any_cons,List.getD_eq_getElem?_getD,List.getElem?_eq_getElem h]
 rfl
theorem Kl (l : List (List C)) (v : Value) (w : World) (hT : Txt.Tab w) (hR : Vw w v l) (hl : l.length ≤ 1048576) : Calls qP 20 #[v] w fun e w' => e = .returned (.int .i64 (X8 l)) ∧ Below w.heap.size w w' := by
 obtain ⟨pa,pc,hv⟩ := hR.slice;have HR : Hid (Vw w v l) := hR;have HT : Hid (Txt.Tab w) := hT;subst hv;have HE : Hid (X8 l = if 50 < l.length then 2 else if Xu l then 5 else 0) := rfl
 generalize X8 l = res at HE ⊢;clear hR hT
 by_cases h50 : 50 < l.length
 ·have h51 : (50 : Int) < (l.length : Int) := by omega
  rw [if_pos h50] at HE;go_enter Tryz.func20,Tryz.ntmps20;go_wp2_with fail;go_ret;exact ⟨Q6 HE.out.symm,qr _ _⟩
 ·have h51 : ¬ (50 : Int) < (l.length : Int) := by omega
  rw [if_neg h50] at HE;go_enter Tryz.func20,Tryz.ntmps20;go_wp2_with fail;go_loopg [10] l.length (fun q i wr => ∃ k : Nat,k ≤ l.length ∧ l.length - k ≤ q ∧ i = .int .i64 k ∧ Below w.heap.size w wr ∧ Xu (l.drop k) = Xu l)
  case atStart => exact ⟨0,by omega,by omega,rfl,qr _ _,rfl⟩
  case round =>
   obtain ⟨k,hk,hq,rfl,hb,hg⟩ := hrel;have HB : Hid (Below w.heap.size w wr) := hb;have HG : Hid (Xu (l.drop k) = Xu l) := hg;clear hb hg
   by_cases hlt : k < l.length
   ·have lt1 : ((k : Int) < (l.length : Int)) := by omega
    rcases HR.out with ⟨he,-⟩ | ⟨b,o,c,hvv,-,-,hc⟩
    ·rw [he] at hlt
     exact absurd hlt (by simp)
    injection hvv with hvv1 hvv2 hvv3
    subst hvv1 hvv3;obtain ⟨rv,hc1,hS⟩ := hc k hlt;have q0 := Qa HB.out hc1;have HS : Hid (SliceAt wr rv (l.getD k [])) := hS.below HB.out;have HD : Hid (Xu l = (!decide (Qf (l.getD k []).length 1 (l.getD k []) = 0) || Xu (l.drop (k + 1)))) := by
     unfold Hid;rw [← HG.out];exact qx1 _ l k hlt []
    generalize l.getD k [] = row at *;obtain ⟨ra,rc,hrv⟩ := hS.shape;subst hrv;have HCK := Grd.Xd (row.length : Int) 1 (.slice ra row.length rc) row wr (HT.out.below HB.out (HT.out.pos)) HS.out;clear hc hc1 hS
    by_cases hz : Qf row.length 1 row = 0
    ·rw [hz] at HCK
     have HD2 : Hid (Xu (l.drop (k + 1)) = Xu l) := by
      unfold Hid;rw [HD.out,hz]
      rfl
     go_wp2_with fail;refine HCK.mono ?_;rintro e W1 ⟨rfl,b1⟩;clear HCK;go_wp2_with fail;go_roundg (l.length - (k + 1))
     case measure => omega
     case rel => exact ⟨k + 1,by omega,by omega,by go_num,HB.out.trans (b1.mono HB.out.size),HD2.out⟩
    ·have HD2 : Hid (Xu l = true) := by
      unfold Hid;rw [HD.out,decide_eq_false hz]
      rfl
     have HZ : Hid (¬ Qf row.length 1 row = 0) := hz;have hzb : (Qf row.length 1 row == 0) = false := by rw [beq_eq_false_iff_ne];exact hz
     have hzc : (Qf row.length 1 row != 0) = true := by simp [bne,hzb]
     clear hz;generalize Qf row.length 1 row = ge at *;go_wp2_with fail;refine HCK.mono ?_;rintro e W1 ⟨rfl,b1⟩;clear HCK;go_wp2_with fail;go_ret;exact ⟨Q6 (by rw [HE.out,HD2.out];rfl),HB.out.trans (b1.mono HB.out.size)⟩
   ·have lt1 : ¬ ((k : Int) < (l.length : Int)) := by omega
    have HD2 : Hid (Xu l = false) := by
     unfold Hid;rw [← HG.out,List.drop_eq_nil_of_le (by omega)]
     rfl
    go_wp2_with fail;go_ret;exact ⟨Q6 (by rw [HE.out,HD2.out];rfl),HB.out⟩
end Put
namespace Grd
theorem min2 (a b : Int) (w : World) : (Builtin.min_ #[3,3] 3 #[.int .i64 a,.int .i64 b]).run qP w = .ok (.int .i64 (min a b)) w := by
 simp [Builtin.min_,Builtin.min2,go_sem]
 repeat' split
 all_goals omega
theorem max2 (a b : Int) (w : World) : (Builtin.max_ #[3,3] 3 #[.int .i64 a,.int .i64 b]).run qP w = .ok (.int .i64 (max a b)) w := by
 simp [Builtin.max_,Builtin.max2,go_sem]
 repeat' split
 all_goals omega
theorem qqf {w : World} {base : Nat} {v : Value} {cs : List C} (h : w.ownsRow base 56 4 v cs.length (flat cs)) (hn : v ≠ .slice none 0 0) : Y5 w base v cs := by
 obtain ⟨_,h | ⟨g,cap,cur,hv,hg,hh,hc,hm,hs,htk⟩⟩ := h
 ·exact absurd h.1 hn
 ·refine ⟨g, cap, cur.toList.drop (cs.length * 4), ⟨56, rfl⟩, hv, hg, hc, by unfold maxLen at hm; omega, ?_⟩
  rw [hh,← htk,List.take_append_drop]
theorem qey {w : World} {b o : Nat} {cs : List C} (h : Qb w b o cs) : ∀ j u,(flat cs)[j]? = some u → w.cell? ((⟨b,o,none⟩ : Addr).add j) = some u := by
 intro j u hj;have hlt := (List.getElem?_eq_some_iff.1 hj).1;rw [Jw] at hlt;have hd : j / 4 < cs.length := by omega
 have hm : j % 4 < 4 := by omega
 have e : j = j / 4 * 4 + j % 4 := by omega
 rw [e,qfc cs (j / 4) (j % 4) hd hm] at hj;obtain ⟨h0,h1,h2,h3⟩ := h (j / 4) hd;rw [add_plain,show o + j = o + j / 4 * 4 + j % 4 by omega,← hj]
 generalize j / 4 = d at *
 rcases (show j % 4 = 0 ∨ j % 4 = 1 ∨ j % 4 = 2 ∨ j % 4 = 3 by omega) with hq | hq | hq | hq <;> rw [hq]
 ·exact h0
 ·exact h1
 ·exact h2
 ·exact h3
end Grd
namespace Grd
open Txt (wd)
def Js (w : World) (g : Nat) (v : Value) (row : List C) : Prop := ∃ (cap : Nat) (rest : List Value),v = .slice (some ⟨g,0,none⟩) row.length cap ∧ row.length ≤ cap ∧ cap ≤ 9223372036854775807 ∧ w.heap[g]? = some (.cells (flat row ++ rest).toArray 56 (0,0))
theorem Js.below {w w' : World} {g : Nat} {v : Value} {row : List C} (h : Js w g v row) (hb : Below w.heap.size w w') : Js w' g v row := by
 obtain ⟨cap,rest,hv,h1,h2,h3⟩ := h;exact ⟨cap,rest,hv,h1,h2,carry h3 hb⟩
theorem Js.cells {w : World} {g : Nat} {v : Value} {row : List C} (h : Js w g v row) : Qb w g 0 row := by
 obtain ⟨cap,rest,_,_,_,h3⟩ := h;exact Gb h3
theorem qns {w : World} {base : Nat} {v : Value} {cs : List C} (h : w.ownsRow base 56 4 v cs.length (flat cs)) (hn : v ≠ .slice none 0 0) : ∃ g,base ≤ g ∧ Js w g v cs := by
 obtain ⟨_,h | ⟨g,cap,cur,hv,hg,hh,hc,hm,hs,htk⟩⟩ := h
 ·exact absurd h.1 hn
 ·refine ⟨g, hg, cap, cur.toList.drop (cs.length * 4), hv, hc, by unfold maxLen at hm; omega, ?_⟩
  rw [hh,← htk,List.take_append_drop]
theorem quh (b o c : Nat) (cs : List C) (w : World) (hC : Qb w b o cs) (hbig : cs.length * 32 ≤ 140737488355328) :
  Calls qP 111 #[.slice (some ⟨b,o,none⟩) cs.length c] w fun e w' => ∃ v' g,e = .returned v' ∧ w.heap.size ≤ g ∧ Js w' g v' cs ∧ Below w.heap.size w w' := by
 obtain ⟨i0,hi,hzz⟩ := Option.map_eq_some_iff.1 U4;simp only [Prod.mk.injEq] at hzz;obtain ⟨hz0,hz1,hz2⟩ := hzz;have kb : Below w.heap.size w (w.alloc (.cells #[] 56)) := (qr _ _).alloc (qd _) _;have HS : Hid (∀ j u,(flat cs)[j]? = some u → (w.alloc (.cells #[] 56)).cell? ((⟨b,o,none⟩ : Addr).add j) = some u) := qey (hC.below kb);have HF : Hid ((flat cs).length = cs.length * 4) := Jw cs;have HO : Hid (∀ u ∈ flat cs,u.oneCell' = true) := qcg cs;have qn : ∀ (w : World) (a : Option Addr) (n c n' c' : Nat),(binOp .eql 22 (.slice a n c) (.slice none n' c')).run qP w = .ok (.bool a.isNone) w := fun w a n c n' c' => Lib.run_eql_slice_nil w _ _ a n c n' c' Jc
 clear hC;go_enter Tryz.func111,Tryz.ntmps111;go_wp2_with (at_builtin;refine wpList_append_own _ rfl _ _ 22 rfl w.heap.size 56 i0 (.agg #[.int .i32 0,.int .i64 0,.int .i64 0,.int .i64 0]) 4 32 Jc hi hz0 hz1 hz2 rfl (by decide) _ _ _ rfl (World.ownsRow_made w #[] 0 (qd _) (Nat.zero_le _) rfl) ⟨b,o,none⟩ cs.length c (flat cs) rfl HF.out HS.out HO.out ?qc4 ?qc5 ?qc6 ?_)
 case qc4 => unfold maxLen;omega
 case qc5 => omega
 case qc6 => simp
 intro v' w1 hown hgrow hnil;obtain ⟨g,hg,hrow⟩ := qns (by simpa using hown) hnil
 go_wp2_with fail;go_ret;exact ⟨v',g,rfl,hg,hrow,((qr _ w).alloc (qd _) _).grown hgrow (by simp) (by intro k hk;simp [Value.ownBlock] at hk;omega)⟩
end Grd
namespace Grd
theorem ownsRow_below {w w' : World} {base : Nat} {e : TypeId} {size : Nat} {v : Value} {n : Nat} {xs : List Value} (h : w.ownsRow base e size v n xs) (hb : Below w.heap.size w w') : w'.ownsRow base e size v n xs := by
 refine ⟨h.1,?_⟩
 rcases h.2 with h2 | ⟨g,cap,cur,hv,hg,hh,r⟩
 ·exact .inl h2
 ·exact .inr ⟨g,cap,cur,hv,hg,by rw [hb.block g (Array.getElem?_eq_some_iff.1 hh).1];exact hh,r⟩
theorem Q4 {w : World} {base base' : Nat} {e : TypeId} {size : Nat} {v : Value} {n : Nat} {xs : List Value} (h : w.ownsRow base e size v n xs) (hb : base' ≤ base) : w.ownsRow base' e size v n xs := by
 refine ⟨h.1,?_⟩
 rcases h.2 with h2 | ⟨g,cap,cur,hv,hg,r⟩
 ·exact .inl h2
 ·exact .inr ⟨g,cap,cur,hv,Nat.le_trans hb hg,r⟩
def Q0 : Value := .slice none 0 0
def Qe (n : Nat) (cs : List C) (k : Nat) : List (List C) := (List.range k).map (rowAt n cs)
theorem qrn (n : Nat) (cs : List C) (k : Nat) : Qe n cs (k + 1) = Qe n cs k ++ [rowAt n cs k] := by simp [Qe,List.range_succ]
theorem Qt (n : Nat) (cs : List C) (k : Nat) : (Qe n cs k).length = k := by simp [Qe]
theorem qb7 {w : World} {base : Nat} {e : TypeId} {size : Nat} {v : Value} {n : Nat} {xs : List Value} (h : w.ownsRow base e size v n xs) : ∀ k,v.ownBlock = some k → base ≤ k := by
 intro k hk;obtain ⟨_,h | ⟨q,cap,cur,rfl,hq,_⟩⟩ := h
 ·rw [h.1] at hk;simp [Value.ownBlock] at hk
 ·simp only [Value.ownBlock,Option.some.injEq] at hk;omega
end Grd
namespace Put
open Grd (C SliceAt Qb Qf z0 Q0)
theorem Gd : Tryz.prog.underlying 27 = some (.slice 4) := by kernel_rfl
theorem qi2 : (Tryz.prog.info? 4).map (fun i => (i.zero,i.size,i.bytes)) = some (some (.bool false),1,1) := by kernel_rfl
theorem que (l : List Bool) : (l.map Value.bool).length = l.length * 1 := by simp
theorem quv (l : List Bool) : ∀ u ∈ l.map Value.bool,u.oneCell' = true := by
 intro u hu;obtain ⟨b,_,rfl⟩ := List.mem_map.1 hu
 rfl
theorem qu6 {w : World} {b o : Nat} {l : List Bool} (h : ∀ j,j < l.length → w.cell? ⟨b,o + j,none⟩ = some (.bool (l.getD j false))) : ∀ j u,(l.map Value.bool)[j]? = some u → w.cell? ((⟨b,o,none⟩ : Addr).add j) = some u := by
 intro j u hj;have hlt := (List.getElem?_eq_some_iff.1 hj).1;rw [List.length_map] at hlt;have h1 := h j hlt;rw [List.getElem?_map,List.getElem?_eq_getElem hlt] at hj;rw [add_plain,h1,← hj];simp [qy,List.getElem?_eq_getElem hlt]
theorem qaz (v : Value) (l : List Bool) (w : World) (hV : Vx w v l) (hl : l.length ≤ 1048576) :
  Calls qP 108 #[v] w fun e w' => ∃ v',e = .returned v' ∧ w'.ownsRow w.heap.size 4 1 v' l.length (l.map Value.bool) ∧ Below w.heap.size w w' := by
 obtain ⟨i0,hi,hzz⟩ := Option.map_eq_some_iff.1 qi2;simp only [Prod.mk.injEq] at hzz;obtain ⟨hz0,hz1,hz2⟩ := hzz;have qn : ∀ (w : World) (a : Option Addr) (n c n' c' : Nat),(binOp .eql 27 (.slice a n c) (.slice none n' c')).run qP w = .ok (.bool a.isNone) w := fun w a n c n' c' => Lib.run_eql_slice_nil w _ _ a n c n' c' Gd
 have kb : Below w.heap.size w (w.alloc (.cells #[] 4)) := (qr _ _).alloc (qd _) _;have HF : Hid ((l.map Value.bool).length = l.length * 1) := que l;have HO : Hid (∀ u ∈ l.map Value.bool,u.oneCell' = true) := quv l
 rcases hV with ⟨rfl,p,c,rfl⟩ | ⟨b,o,c,rfl,hc,hm,hC⟩
 ·cases p with
  | none =>
   go_enter Tryz.func108,Tryz.ntmps108;go_wp2_with fail;go_ret;exact ⟨_,rfl,World.ownsRow_nil _ _ _ _,qr _ _⟩
  | some ad =>
   go_enter Tryz.func108,Tryz.ntmps108;go_wp2_with (at_builtin;refine wpList_append_own _ rfl _ _ 27 rfl w.heap.size 4 i0 (.bool false) 1 1 Gd hi hz0 hz1 hz2 rfl (by decide) _ _ _ rfl (World.ownsRow_made w #[] 0 (qd _) (Nat.zero_le _) rfl) ad 0 c [] rfl rfl (by simp) (by simp) (by unfold maxLen;omega) (by omega) (by simp) ?_)
   intro v' w1 hown hgrow hnil;go_wp2_with fail;go_ret;exact ⟨v',rfl,hown,((qr _ w).alloc (qd _) _).grown hgrow (by simp) (by intro k hk;simp [Value.ownBlock] at hk;omega)⟩
 ·have HS : Hid (∀ j u, (l.map Value.bool)[j]? = some u → (w.alloc (.cells #[] 4)).cell? ((⟨b, o, none⟩ : Addr).add j) = some u) := qu6 (fun j hj => Qa kb (hC j hj))
  clear hC;go_enter Tryz.func108,Tryz.ntmps108;go_wp2_with (at_builtin;refine wpList_append_own _ rfl _ _ 27 rfl w.heap.size 4 i0 (.bool false) 1 1 Gd hi hz0 hz1 hz2 rfl (by decide) _ _ _ rfl (World.ownsRow_made w #[] 0 (qd _) (Nat.zero_le _) rfl) ⟨b,o,none⟩ l.length c (l.map Value.bool) rfl HF.out HS.out HO.out ?qc4 ?qc5 ?qc6 ?_)
  case qc4 => unfold maxLen;omega
  case qc5 => omega
  case qc6 => simp
  intro v' w1 hown hgrow hnil;go_wp2_with fail;go_ret;refine ⟨v',rfl,?_,((qr _ w).alloc (qd _) _).grown hgrow (by simp) (by intro k hk;simp [Value.ownBlock] at hk;omega)⟩
  simpa using hown
theorem Jh : Tryz.prog.underlying 30 = some (.slice 22) := by kernel_rfl
theorem qbb : (Tryz.prog.info? 22).map (fun i => (i.zero,i.size,i.bytes)) = some (some (.slice none 0 0),1,24) := by kernel_rfl
def qai (W : World) (vs : List Value) (rows : List (List C)) : Prop := vs.length = rows.length ∧ ∀ i,i < rows.length → SliceAt W (vs.getD i Q0) (rows.getD i [])
theorem qoq {w : World} {b o : Nat} : ∀ {l : List (List C)},(∀ j,j < l.length → ∃ rv,w.cell? ⟨b,o + j,none⟩ = some rv ∧ SliceAt w rv (l.getD j [])) → ∃ vs : List Value,qai w vs l ∧ ∀ j,j < l.length → w.cell? ⟨b,o + j,none⟩ = some (vs.getD j Q0) := by
 intro l h;refine ⟨(List.range l.length).map fun j => (w.cell? ⟨b,o + j,none⟩).getD Q0,⟨by simp,fun i hi => ?_⟩,fun j hj => ?_⟩
 ·obtain ⟨rv, h1, h2⟩ := h i hi
  have e : ((List.range l.length).map fun j => (w.cell? ⟨b,o + j,none⟩).getD Q0).getD i Q0 = rv := by
   simp [qy,hi,h1]
  rw [e];exact h2
 ·obtain ⟨rv, h1, h2⟩ := h j hj
  have e : ((List.range l.length).map fun j => (w.cell? ⟨b,o + j,none⟩).getD Q0).getD j Q0 = rv := by
   simp [qy,hj,h1]
  rw [e,h1]
theorem SliceAt.one {w : World} {v : Value} {cs : List C} (h : SliceAt w v cs) : v.oneCell' = true := by
 obtain ⟨a,c,rfl⟩ := h.shape
 rfl
theorem qai.one {W : World} {vs : List Value} {rows : List (List C)} (h : qai W vs rows) : ∀ u ∈ vs,u.oneCell' = true := by
 intro u hu;obtain ⟨i,hi,rfl⟩ := List.mem_iff_getElem.1 hu;have := h.2 i (by rw [← h.1];exact hi)
 have e : vs.getD i Q0 = vs[i] := by simp [qy,hi]
 rw [e] at this;exact SliceAt.one this
theorem qwj {w : World} {b o : Nat} {vs : List Value} (h : ∀ j,j < vs.length → w.cell? ⟨b,o + j,none⟩ = some (vs.getD j Q0)) : ∀ j u,vs[j]? = some u → w.cell? ((⟨b,o,none⟩ : Addr).add j) = some u := by
 intro j u hj;have hlt := (List.getElem?_eq_some_iff.1 hj).1;have h1 := h j hlt;rw [add_plain,h1];simp [qy,hj]
theorem qib (v : Value) (l : List (List C)) (w : World) (hV : Vw w v l) (hl : l.length ≤ 1048576) :
  Calls qP 109 #[v] w fun e w' => ∃ v' vs,e = .returned v' ∧ w'.ownsRow w.heap.size 22 1 v' l.length vs ∧ qai w vs l ∧ (∀ w0,Below w0.heap.size w0 w → Vw w0 v l → qai w0 vs l) ∧ Below w.heap.size w w' := by
 obtain ⟨i0,hi,hzz⟩ := Option.map_eq_some_iff.1 qbb;simp only [Prod.mk.injEq] at hzz;obtain ⟨hz0,hz1,hz2⟩ := hzz;have qn : ∀ (w : World) (a : Option Addr) (n c n' c' : Nat),(binOp .eql 30 (.slice a n c) (.slice none n' c')).run qP w = .ok (.bool a.isNone) w := fun w a n c n' c' => Lib.run_eql_slice_nil w _ _ a n c n' c' Jh
 have kb : Below w.heap.size w (w.alloc (.cells #[] 22)) := (qr _ _).alloc (qd _) _
 rcases hV with ⟨rfl,p,c,rfl⟩ | ⟨b,o,c,rfl,hc,hm,hC⟩
 ·cases p with
  | none =>
   go_enter Tryz.func109,Tryz.ntmps109;go_wp2_with fail;go_ret;exact ⟨_,[],rfl,World.ownsRow_nil _ _ _ _,⟨rfl,fun i hi => absurd hi (by simp)⟩,fun _ _ _ => ⟨rfl,fun i hi => absurd hi (by simp)⟩,qr _ _⟩
  | some ad =>
   go_enter Tryz.func109,Tryz.ntmps109;go_wp2_with (at_builtin;refine wpList_append_own _ rfl _ _ 30 rfl w.heap.size 22 i0 (.slice none 0 0) 1 24 Jh hi hz0 hz1 hz2 rfl (by decide) _ _ _ rfl (World.ownsRow_made w #[] 0 (qd _) (Nat.zero_le _) rfl) ad 0 c [] rfl rfl (by simp) (by simp) (by unfold maxLen;omega) (by omega) (by simp) ?_)
   intro v' w1 hown hgrow hnil;go_wp2_with fail;go_ret;exact ⟨v',[],rfl,hown,⟨rfl,fun i hi => absurd hi (by simp)⟩,fun _ _ _ => ⟨rfl,fun i hi => absurd hi (by simp)⟩,((qr _ w).alloc (qd _) _).grown hgrow (by simp) (by intro k hk;simp [Value.ownBlock] at hk;omega)⟩
 ·obtain ⟨vs, hvs, hcs⟩ := qoq hC
  have HVS : Hid (qai w vs l) := hvs;have HF : Hid (vs.length = l.length * 1) := by rw [Nat.mul_one];exact hvs.1
  have HO : Hid (∀ u ∈ vs,u.oneCell' = true) := hvs.one;have HS : Hid (∀ j u,vs[j]? = some u → (w.alloc (.cells #[] 22)).cell? ((⟨b,o,none⟩ : Addr).add j) = some u) := qwj (fun j hj => Qa kb (hcs j (by rw [← hvs.1];exact hj)))
  have HW0 : Hid (∀ w0,Below w0.heap.size w0 w → Vw w0 (.slice (some ⟨b,o,none⟩) l.length c) l → qai w0 vs l) := fun w0 hb0 hv0 => by
   refine ⟨hvs.1,fun i hi => ?_⟩
   rcases hv0 with ⟨he,-⟩ | ⟨b',o',c',hv',-,-,hC'⟩
   ·rw [he] at hi
    exact absurd hi (by simp)
   injection hv' with hv1 hv2 hv3
   injection hv1 with hv1
   injection hv1 with hb' ho' _
   obtain ⟨rv,h1,h2⟩ := hC' i hi;rw [← hb',← ho'] at h1;have h3 := (Qa hb0 h1).symm.trans (hcs i hi);injection h3 with h3
   rw [← h3];exact h2
  clear hC hcs hvs;go_enter Tryz.func109,Tryz.ntmps109;go_wp2_with (at_builtin;refine wpList_append_own _ rfl _ _ 30 rfl w.heap.size 22 i0 (.slice none 0 0) 1 24 Jh hi hz0 hz1 hz2 rfl (by decide) _ _ _ rfl (World.ownsRow_made w #[] 0 (qd _) (Nat.zero_le _) rfl) ⟨b,o,none⟩ l.length c vs rfl HF.out HS.out HO.out ?qc4 ?qc5 ?qc6 ?_)
  case qc4 => unfold maxLen;omega
  case qc5 => omega
  case qc6 => simp
  intro v' w1 hown hgrow hnil;go_wp2_with fail;go_ret;refine ⟨v',vs,rfl,?_,HVS.out,HW0.out,((qr _ w).alloc (qd _) _).grown hgrow (by simp) (by intro k hk;simp [Value.ownBlock] at hk;omega)⟩
  simpa using hown
end Put
namespace Put
theorem qo3 (x : BitVec 64) : IntKind.i64.wrap (x.toNat : Int) = 0 ↔ x = 0 := by
 rw [IntKind.wrap_i64];have := x.isLt;constructor
 ·intro h
  apply BitVec.eq_of_toNat_eq;simp;omega
 ·rintro rfl
  decide
theorem qew (m c : Int) : bits .andNot .i64 m c = 0 ↔ BitVec.ofInt 64 m &&& ~~~ (BitVec.ofInt 64 c) = 0 := by
 show IntKind.i64.wrap ((BitVec.ofInt 64 m &&& ~~~ (BitVec.ofInt 64 c)).toNat : Int) = 0 ↔ _
 exact qo3 _
theorem qt1 (x : BitVec 64) : x &&& ~~~ (63#64) = 0 ↔ x.toNat < 64 := by
 constructor
 ·intro h
  have h1 : x >>> 6 = 0 := by
   apply BitVec.eq_of_getLsbD_eq;intro i hi;have h2 := congrArg (fun y => BitVec.getLsbD y (6 + i)) h
   simp only [BitVec.getLsbD_and,BitVec.getLsbD_not,BitVec.getLsbD_ushiftRight] at h2 ⊢;have h3 : (63#64).getLsbD (6 + i) = false := by
    rw [BitVec.getLsbD_ofNat];have : Nat.testBit 63 (6 + i) = false := by
     apply Nat.testBit_lt_two_pow
     calc 63 < 2 ^ 6 := by decide
      _ ≤ 2 ^ (6 + i) := Nat.pow_le_pow_right (by decide) (by omega)
    rw [this];simp
   by_cases hlt : 6 + i < 64
   ·rw [h3] at h2
    simpa [hlt] using h2
   ·rw [BitVec.getLsbD_of_ge _ _ (by omega)]
    simp
  have h4 := congrArg BitVec.toNat h1;rw [BitVec.toNat_ushiftRight,Nat.shiftRight_eq_div_pow] at h4;simp at h4;omega
 ·intro h
  have key : ∀ n : Fin 64,(BitVec.ofNat 64 n.val) &&& ~~~ (63#64) = 0 := by decide +kernel
  have h2 := key ⟨x.toNat,h⟩;simpa using h2
theorem qaw (m : Int) (h0 : -9223372036854775808 ≤ m) (h1 : m ≤ 9223372036854775807) : bits .andNot .i64 m 63 = 0 ↔ 0 ≤ m ∧ m ≤ 63 := by
 rw [qew,show BitVec.ofInt 64 63 = 63#64 from rfl,qt1,BitVec.toNat_ofInt]
 omega
def K5 (m : Int) : Bool := decide (m = 0 ∨ m = 2 ∨ m = 4 ∨ m = 6)
theorem qfa (m : Int) (h0 : -9223372036854775808 ≤ m) (h1 : m ≤ 9223372036854775807) : bits .andNot .i64 m 6 = 0 ↔ K5 m = true := by
 have hk : K5 m = true ↔ (m = 0 ∨ m = 2 ∨ m = 4 ∨ m = 6) := by simp [K5]
 rw [hk];constructor
 ·intro h
  have h63 : bits .andNot .i64 m 63 = 0 := by
   rw [qew] at h ⊢;have e : BitVec.ofInt 64 m &&& ~~~ (BitVec.ofInt 64 63) = (BitVec.ofInt 64 m &&& ~~~ (BitVec.ofInt 64 6)) &&& ~~~ (BitVec.ofInt 64 63) := by
    rw [BitVec.and_assoc,show (~~~ (BitVec.ofInt 64 6)) &&& ~~~ (BitVec.ofInt 64 63) = ~~~ (BitVec.ofInt 64 63) by decide]
   rw [e,h];simp
  obtain ⟨p0,p1⟩ := (qaw m h0 h1).1 h63;have key : ∀ n : Fin 64,bits .andNot .i64 (n.val : Int) 6 = 0 → ((n.val : Int) = 0 ∨ (n.val : Int) = 2 ∨ (n.val : Int) = 4 ∨ (n.val : Int) = 6) := by decide +kernel
  have h2 := key ⟨m.toNat,by omega⟩
  simp only [Int.toNat_of_nonneg p0] at h2;exact h2 h
 ·rintro (rfl | rfl | rfl | rfl) <;> decide
end Put
end Go.Proofs.YtooobiigijphkaaGreatDoor
