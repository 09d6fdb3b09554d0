/- Parts of the proof, shortened by a program. -/
import Derived.Test.YtooobiigijphkaaGreatDoorPartJ
import Derived.Lib.JoinLaws
import Derived.Lib.AppendZeros
import Derived.Lib.Overlaps
import Derived.Laws.Externs
import Derived.Laws.IdiomCopy
import Derived.Shelf.RegionOpenPlain
import Derived.Test.YtooobiigijphkaaGreatDoorPartG
import Derived.Test.YtooobiigijphkaaGreatDoorPartI
import Derived.Deep.RegionHeld3
import Derived.BigRegion
import Derived.BigQuiet
import Derived.Test.YtooobiigijphkaaGreatDoorPartD
import Derived.Maps.AppendAt
set_option maxHeartbeats 4000000
open Nat renaming le_refl → qd
open List renaming replicate → qe, getD → qy
open Go renaming heap_alloc_new → qf
open Go.RowKit.Below renaming refl → qr
open Go.Proofs.Tryz renaming prog → qP
namespace Go.Proofs.YtooobiigijphkaaGreatDoor
set_option linter.unusedVariables false
set_option linter.unusedSimpArgs false
set_option maxRecDepth 100000
open Go.ChangeShapes Go.WideShapes Go.ChangeAt Go.RowKit
namespace Put
open Grd (C Q0)
def setL (cur : Array Value) (o : Nat) : List Value → Array Value
 | [] => cur
 | v :: r => setL (cur.setIfInBounds o v) (o + 1) r
theorem Gj : ∀ (xs : List Value) (cur : Array Value) (o : Nat), (setL cur o xs).size = cur.size
 | [],_,_ => rfl
 | v :: r,cur,o => by
  show (setL (cur.setIfInBounds o v) (o + 1) r).size = _
  rw [Gj r];simp
theorem qe9 : ∀ (xs : List Value) (cur : Array Value) (o j : Nat), j < cur.size → (setL cur o xs)[j]? = if o ≤ j ∧ j < o + xs.length then xs[j - o]? else cur[j]?
 | [],cur,o,j,h => by
  rw [if_neg (by simp)]
  rfl
 | v :: r,cur,o,j,h => by
  show (setL (cur.setIfInBounds o v) (o + 1) r)[j]? = _
  rw [qe9 r _ _ j (by simpa using h)]
  by_cases h1 : o + 1 ≤ j ∧ j < o + 1 + r.length
  ·rw [if_pos h1, if_pos (by simp; omega), show j - o = (j - (o + 1)) + 1 by omega]
   rfl
  ·rw [if_neg h1]
   by_cases h2 : j = o
   ·subst h2
    rw [if_pos (by simp)]
    simp [h]
   ·rw [if_neg (by simp;omega),Array.getElem?_setIfInBounds_ne (Ne.symm h2)]
theorem qa9 (g : Nat) (e : TypeId) : ∀ (xs : List Value) (w : World) (o : Nat) (cur : Array Value), w.heap[g]? = some (.cells cur e (0, 0)) → (w.setCells g o xs).heap[g]? = some (.cells (setL cur o xs) e (0, 0))
 | [],_,_,_,h => h
 | v :: r,w,o,cur,h => qa9 g e r _ _ _ (heap_setCell_same w g o cur e v h)
theorem qmg (cur : Array Value) (vs : List Value) (n i : Nat) (v : Value) (hl : vs.length = n) (hi : i ≤ n) (hs : n + 1 ≤ cur.size) (ht : cur.toList.take n = vs) : (setL (setL cur (i + 1) (vs.drop i)) i [v]).toList.take (n + 1) = vs.insertIdx i v := by
 apply List.ext_getElem?;intro j;have hc : ∀ k,k < n → cur[k]? = vs[k]? := fun k hk => by rw [← ht,List.getElem?_take_of_lt hk,Array.getElem?_toList]
 by_cases hj : j < n + 1
 ·rw [List.getElem?_take_of_lt hj, Array.getElem?_toList, qe9 _ _ _ _ (by rw [Gj]; omega), List.getElem?_insertIdx]
  by_cases h1 : j < i
  ·rw [if_neg (by simp;omega),qe9 _ _ _ _ (by omega),if_neg (by simp;omega),if_pos h1,hc j (by omega)]
  ·rw [if_neg h1]
   by_cases h2 : j = i
   ·subst h2
    rw [if_pos (by simp),if_pos rfl,if_pos (by omega)]
    simp
   ·rw [if_neg (by simp; omega), qe9 _ _ _ _ (by omega), if_pos (by simp; omega), if_neg h2, List.getElem?_drop]
    congr 1
    omega
 ·rw [List.getElem?_eq_none (by simp;omega),List.getElem?_eq_none (by rw [List.length_insertIdx];split <;> omega)]
theorem q0p (cur : Array Value) (vs : List Value) (n : Nat) (v : Value) (hl : vs.length = n) (hs : n + 1 ≤ cur.size) (ht : cur.toList.take n = vs) : (setL cur n [v]).toList.take (n + 1) = vs.insertIdx n v := by
 have := qmg cur vs n n v hl (qd _) hs ht;rw [List.drop_of_length_le (by omega)] at this
 exact this
theorem Vz (g k : Nat) (h : k ≠ g) : ∀ (xs : List Value) (o : Nat) (w : World),(w.setCells g o xs).heap[k]? = w.heap[k]? := fun xs o w => Grd.Zv _ k h xs o w
theorem qpx (N g n cap vb vc : Nat) (vs : List Value) (v : Value) (w : World) (h : w.ownsRow N 22 1 (.slice (some ⟨g, 0, none⟩) n cap) n vs) (hsv : IsSl v) (hroom : n + 1 ≤ cap) (hvb : w.cell? ⟨vb, 0, none⟩ = some v) :
  Calls qP 224 #[.slice (some ⟨g,0,none⟩) n cap,.int .i64 (n : Int),.slice (some ⟨vb,0,none⟩) 1 vc] w fun e w' => e = .returned (.slice (some ⟨g,0,none⟩) (n + 1) cap) ∧ w'.ownsRow N 22 1 (.slice (some ⟨g,0,none⟩) (n + 1) cap) (n + 1) (vs.insertIdx n v) ∧ (∀ k,k ≠ g → w'.heap[k]? = w.heap[k]?) ∧ Below g w w' := by
 obtain ⟨h0,⟨h1,-⟩ | ⟨g',cap',cur,hv,hb,hg,hn,hm,hs,ht⟩⟩ := h
 ·injection h1 with h1
  cases h1
 injection hv with e1 _ e3
 injection e1 with e1
 injection e1 with e1
 subst e1 e3;rw [Nat.mul_one] at h0 hs ht;obtain ⟨x,rfl⟩ := hsv;have hc63 : cap ≤ 9223372036854775807 := by unfold maxLen at hm;omega
 obtain ⟨i0,hi0,hz⟩ := Option.map_eq_some_iff.1 qaa
 have hsrc : Src qP 1 30 (.slice (some ⟨vb, 0, none⟩) 1 vc) 1 [encS x] w := Src.ofSlice w Jh ⟨vb, 0, none⟩ 1 vc [encS x] (by simp) (fun j u hj => by
  rw [Addr.add_lit]
  match j,hj with
  | 0,hj => rw [← Option.some.inj hj];exact hvb) (by simp [encS,Value.oneCell'])
 have hcell : ∀ j,j < 1 → (w.cell? ⟨g,0 + n + j,none⟩).isSome = true := fun j hj => by
  simp only [World.cell?,hg];simp only [Option.isSome_none,Bool.false_eq_true,if_false];rw [Array.getElem?_eq_getElem (by omega)]
  rfl
 have hfz : ∀ j,j < 1 → w.frozen? ⟨g,0 + n + j,none⟩ = false := fun j _ => by simp [World.frozen?,hg]
 have HE : Hid ((w.setCells g n [encS x]).ownsRow N 22 1 (.slice (some ⟨g,0,none⟩) (n + 1) cap) (n + 1) (vs.insertIdx n (encS x)) ∧ (∀ k,k ≠ g → (w.setCells g n [encS x]).heap[k]? = w.heap[k]?) ∧ Below g w (w.setCells g n [encS x])) := by
  refine ⟨⟨by rw [List.length_insertIdx,if_pos (by omega)];omega,.inr ⟨g,cap,_,rfl,hb,qa9 g _ [encS x] w n cur hg,hroom,hm,by rw [Gj];omega,?_⟩⟩,fun k hk => Vz g k hk _ _ _,Grd.Zr (qd _) _ _ _ (qr _ _)⟩
  rw [Nat.mul_one];exact q0p cur vs n (encS x) h0 (by omega) ht
 clear hg ht hs;go_enter Tryz.func224,Tryz.ntmps224;go_wp2_with (at_builtin;refine wpList_append_room1 _ rfl _ _ 30 30 rfl 22 _ _ Jh qbb g 0 n cap rfl _ rfl 1 [encS x] hsrc hroom (by simpa using hcell) (by simpa using hfz) ?_)
 go_ret;exact ⟨rfl,HE.out⟩
theorem qk5 (N g n cap i vb vc : Nat) (vs : List Value) (v : Value) (w : World) (h : w.ownsRow N 22 1 (.slice (some ⟨g, 0, none⟩) n cap) n vs) (hvs : ∀ u, u ∈ vs → IsSl u) (hsv : IsSl v) (hi : i < n) (hroom : n + 1 ≤ cap) (hvb : w.heap[vb]? = some (.cells #[v] 22 (0, 0))) (hne : vb ≠ g) :
  Calls qP 224 #[.slice (some ⟨g,0,none⟩) n cap,.int .i64 (i : Int),.slice (some ⟨vb,0,none⟩) 1 vc] w fun e w' => e = .returned (.slice (some ⟨g,0,none⟩) (n + 1) cap) ∧ w'.ownsRow N 22 1 (.slice (some ⟨g,0,none⟩) (n + 1) cap) (n + 1) (vs.insertIdx i v) ∧ (∀ k,k ≠ g → w'.heap[k]? = w.heap[k]?) ∧ Below g w w' := by
 obtain ⟨h0,⟨h1,-⟩ | ⟨g',cap',cur,hv,hb,hg,hn,hm,hs,ht⟩⟩ := h
 ·injection h1 with h1
  cases h1
 injection hv with e1 _ e3
 injection e1 with e1
 injection e1 with e1
 subst e1 e3;rw [Nat.mul_one] at h0 hs ht;have hsv1 : v.oneCell' = true := by obtain ⟨x,rfl⟩ := hsv;rfl
 have hv1 : ∀ u,u ∈ vs → u.oneCell' = true := fun u hu => by obtain ⟨x,rfl⟩ := hvs u hu;rfl
 have hc63 : cap ≤ 9223372036854775807 := by unfold maxLen at hm;omega
 have hcell : ∀ (W : World),W.heap[g]? = w.heap[g]? → ∀ j,j < cap → (W.cell? ⟨g,0 + j,none⟩).isSome = true := fun W hW j hj => by
  simp only [World.cell?,hW,hg];simp only [Option.isSome_none,Bool.false_eq_true,if_false];rw [Array.getElem?_eq_getElem (by omega)]
  rfl
 have hfz : ∀ j,w.frozen? ⟨g,j,none⟩ = false := fun j => by simp [World.frozen?,hg]
 have hcs : ∀ j u,vs[j]? = some u → w.cell? ⟨g,0 + j,none⟩ = some u := fun j u hj => by
  have hlt := (List.getElem?_eq_some_iff.1 hj).1;simp only [World.cell?,hg];simp only [Option.isSome_none,Bool.false_eq_true,if_false];rw [← hj,← ht,List.getElem?_take_of_lt (by omega),Array.getElem?_toList,Nat.zero_add]
 have hvc : w.cell? ⟨vb,0,none⟩ = some v := by simp [World.cell?,hvb]
 have hsa : w.shape? vb = some (22,1) := by simp [World.shape?,hvb]
 have hsb : w.shape? g = some (22,cur.size) := by simp [World.shape?,hg]
 have hov : ∀ lb cb,(callFunc 237 #[.slice (some ⟨vb,0,none⟩) 1 vc,.slice (some ⟨g,i + 1,none⟩) lb cb]).run qP w = .ok (.value (.bool false)) w := fun lb cb => by
  rw [run_callFunc_extern Tryz.func237 (by kernel_rfl) (by kernel_rfl) (by kernel_rfl) (e := Extern.SlicesOverlaps.overlaps #[30, 30] #[4]) (by kernel_rfl),
   Lib.run_overlaps_apart w 30 4 22 Jh 1 Tryz.sizeOf22 ⟨vb,0,none⟩ ⟨g,i + 1,none⟩ 1 vc lb cb hne _ _ _ _ hsa hsb (by omega) (by simp [World.frozen?,hvb]) (by simp [World.frozen?,hvb])]
  rfl
 have hdl : (vs.drop i).length = n - i := by rw [List.length_drop,h0]
 have hcp1 : ∀ ty dc sc,(Builtin.copy_ #[30,30] ty #[.slice (some ⟨g,i + 1,none⟩) (n - i) dc,.slice (some ⟨g,i,none⟩) (n + 1 - i) sc]).run qP w.drew = .ok (goInt (vs.drop i).length) (w.drew.setCells g (i + 1) (vs.drop i)) := fun ty dc sc =>
  run_copy_cells w.drew _ _ ty 22 g (i + 1) (n - i) dc ⟨g, i, none⟩ (n + 1 - i) sc (vs.drop i) Jh qaa (by rw [hdl]; simp only [Nat.min_def]; split <;> omega)
   (fun j u hj => by rw [Addr.add_lit,← Nat.zero_add (i + j)];exact hcs (i + j) u (by rwa [List.getElem?_drop] at hj))
   (fun j hj => by rw [← Nat.zero_add (i + 1 + j)];exact hcell w.drew rfl _ (by omega)) (fun j hj => hfz _) (fun u hu => hv1 u (List.mem_of_mem_drop hu))
 obtain ⟨W1,hW1⟩ : ∃ W1,W1 = w.drew.setCells g (i + 1) (vs.drop i) := ⟨_,rfl⟩;have hg1 : W1.heap[g]? = some (.cells (setL cur (i + 1) (vs.drop i)) 22 (0,0)) := by
  rw [hW1];exact qa9 g _ (vs.drop i) w.drew (i + 1) cur hg
 have ho1 : ∀ k,k ≠ g → W1.heap[k]? = w.heap[k]? := fun k hk => by rw [hW1];exact Vz g k hk _ _ _
 have hb1 : Below g w W1 := by rw [hW1];exact Grd.Zr (qd _) _ _ _ ((qr _ _).drew)
 have hcp2 : ∀ (W : World),W.heap = W1.heap → ∀ ty dc,(Builtin.copy_ #[30,30] ty #[.slice (some ⟨g,i,none⟩) (n + 1 - i) dc,.slice (some ⟨vb,0,none⟩) 1 vc]).run qP W = .ok (goInt [v].length) (W.setCells g i [v]) := fun W hWh ty dc =>
  run_copy_cells W _ _ ty 22 g i (n + 1 - i) dc ⟨vb, 0, none⟩ 1 vc [v] Jh qaa (by simp only [List.length_singleton, Nat.min_def]; split <;> omega)
   (fun j u hj => by
    rw [Addr.add_lit]
    match j,hj with
    | 0,hj =>
     rw [← Option.some.inj hj];simp only [World.cell?,hWh,ho1 vb hne,hvb]
     rfl)
   (fun j hj => by
    simp only [World.cell?,hWh,hg1];simp only [Option.isSome_none,Bool.false_eq_true,if_false];rw [Array.getElem?_eq_getElem (by rw [Gj];simp at hj;omega)]
    rfl) (fun j hj => by simp [World.frozen?,hWh,hg1]) (by simpa using hsv1)
 have HE : Hid (∀ W : World,W.heap = W1.heap → Below g w W → (W.setCells g i [v]).ownsRow N 22 1 (.slice (some ⟨g,0,none⟩) (n + 1) cap) (n + 1) (vs.insertIdx i v) ∧ (∀ k,k ≠ g → (W.setCells g i [v]).heap[k]? = w.heap[k]?) ∧ Below g w (W.setCells g i [v])) := fun W hW hbW => by
  refine ⟨⟨by rw [List.length_insertIdx,if_pos (by omega)];omega,.inr ⟨g,cap,_,rfl,hb,qa9 g _ [v] W i _ (by rw [hW];exact hg1),hroom,hm,by rw [Gj,Gj];omega,?_⟩⟩,fun k hk => (Vz g k hk _ _ _).trans (by rw [hW];exact ho1 k hk),Grd.Zr (qd _) _ _ _ hbW⟩
  rw [Nat.mul_one];exact qmg cur vs n i v h0 (by omega) (by omega) ht
 have HB1 : Hid (Below g w W1) := hb1;rw [← hW1] at hcp1;clear hg ht hs hW1 hcs hcell hfz hvb hvc hg1 ho1 hb1 hsa hsb hv1 hvs hsv hsv1 hdl;have mixed : Tryz.prog.follows .mixedOrders = true := by kernel_rfl
 have hz2 : ¬ ((i : Int) = (n : Int)) := by omega
 have hw1 : IntKind.i64.wrap ((i : Int) + 1) = (i : Int) + 1 := by rw [IntKind.wrap_i64];omega
 have hb1 : (0 : Int) ≤ (i : Int) + 1 := by omega
 have htn : ((i : Int) + 1).toNat = i + 1 := by omega
 have hb2 : ¬ (cap = i + 1) := by omega
 have hb3 : (i : Int) ≤ (n : Int) + 1 := by omega
 have hb4 : ¬ (cap = i) := by omega
 have hin : i ≤ n := by omega
 go_enter Tryz.func224,Tryz.ntmps224;go_wp2_with (simp only [hov]);go_region_law_o (refine step_copyR rfl _ _ 30 30 rfl _ _ (by simp [Act.eval,Act.put]) (by simp [Act.eval,Act.put]) (hcp1 _ _ _) ?_)
 go_wp2_with (at_builtin;refine wpList_copyR _ rfl _ _ 30 30 rfl _ _ rfl rfl (hcp2 _ rfl _ _) ?_);go_ret;exact ⟨rfl,HE.out _ rfl HB1.out⟩
theorem qq3 (N g n cap i vb vc : Nat) (vs : List Value) (v : Value) (w : World) (h : w.ownsRow N 22 1 (.slice (some ⟨g, 0, none⟩) n cap) n vs) (hvs : ∀ u, u ∈ vs → IsSl u) (hsv : IsSl v) (hi : i ≤ n) (hroom : n + 1 ≤ cap) (hvb : w.heap[vb]? = some (.cells #[v] 22 (0, 0))) (hne : vb ≠ g) :
  Calls qP 224 #[.slice (some ⟨g,0,none⟩) n cap,.int .i64 (i : Int),.slice (some ⟨vb,0,none⟩) 1 vc] w fun e w' => e = .returned (.slice (some ⟨g,0,none⟩) (n + 1) cap) ∧ w'.ownsRow N 22 1 (.slice (some ⟨g,0,none⟩) (n + 1) cap) (n + 1) (vs.insertIdx i v) ∧ (∀ k,k ≠ g → w'.heap[k]? = w.heap[k]?) ∧ Below g w w' := by
 rcases Nat.lt_or_eq_of_le hi with hlt | rfl
 ·exact qk5 N g n cap i vb vc vs v w h hvs hsv hlt hroom hvb hne
 ·exact qpx N g i cap vb vc vs v w h hsv hroom (by simp [World.cell?,hvb])
end Put
namespace Put
open Grd (C SliceAt Qb Qf z0 Q0 flat Qe Y5 Js)
def qcw (t : TypeId) : Prop := t ≠ 110 ∧ t ≠ 4 ∧ t ≠ 22
def qro (o : Obj) : Prop := ∀ (A : Array Value) (t : TypeId) (f : Nat × Nat),o = .cells A t f → qcw t
def Q3 (W W' : World) : Prop := ∀ (k : Nat) (o : Obj),W.heap[k]? = some o → qro o → W'.heap[k]? = some o
theorem Q3.trans {a b c : World} (h : Q3 a b) (k : Q3 b c) : Q3 a c := fun i o hi ho => k i o (h i o hi ho) ho
theorem Q3.of_below {W W' : World} (h : Below W.heap.size W W') : Q3 W W' := fun k _ hk _ => (h.block k (Qc hk)).trans hk
theorem Q3.store {W : World} {p i : Nat} {v : Value} {A : Array Value} {t : TypeId} (hp : W.heap[p]? = some (.cells A t (0,0))) (ht : ¬ qcw t) : Q3 W (W.setCell ⟨p,i,none⟩ v) := fun k o hk ho => by
 have hne : k ≠ p := by
  intro e;rw [e,hp] at hk;injection hk with hk
  exact ht (ho A t (0,0) hk.symm)
 exact (Zf hne).trans hk
theorem qem {A : Array Value} {t : TypeId} {f : Nat × Nat} (h : qcw t) : qro (.cells A t f) := fun B u g e => by
 injection e with _ e _
 rw [← e];exact h
theorem Ve : ¬ qcw 110 := fun h => h.1 rfl
theorem Vs : ¬ qcw 22 := fun h => h.2.2 rfl
def Ran (W : World) (M N p : Nat) (s' : Scr) (rows' : List (List C)) (e : Ending) (W' : World) : Prop := e = .returned (.tuple #[]) ∧ ShAt 110 W' M N p s' rows' ∧ Below N W W' ∧ Q3 W W'
theorem qmh {W : World} {base : Nat} {v : Value} {row : List C} (h : Y5 W base v row) : ∃ g,base ≤ g ∧ Js W g v row := by
 obtain ⟨g,cap,rest,⟨t,rfl⟩,hv,hg,h1,h2,h3⟩ := h;exact ⟨g,hg,cap,rest,hv,h1,h2,h3⟩
theorem ShA.qxe {V : World} {M N p : Nat} {s : Scr} {rows : List (List C)} {cv tv gv rv : Value} {gvs vs : List Value} (h : ShA 110 V M N p s rows cv tv gv rv gvs vs) {rb rc y : Nat} (hrv : rv = .slice (some ⟨rb,0,none⟩) rows.length rc) {v : Value} {row' : List C} (hr : X3 V M v row') : ShA 110 (V.setCell ⟨rb,y,none⟩ v) M N p s (rows.set y row') cv tv gv rv gvs (vs.set y v) := by
 obtain ⟨hlo,A,f,hA⟩ := Qn h.rws rb (by rw [hrv];rfl)
 have hA0 : ∃ A,V.heap[rb]? = some (.cells A 22 (0,0)) := by
  have h1 := h.rws;rw [hrv] at h1;obtain ⟨-,⟨h1,-⟩ | ⟨g',cap,cur,hv,-,hh,-⟩⟩ := h1
  ·injection h1 with h1
   cases h1
  ·injection hv with hv1 _ _
   injection hv1 with hv1
   injection hv1 with hv1
   subst hv1;exact ⟨cur,hh⟩
 obtain ⟨B,hB⟩ := hA0;have hne : p ≠ rb := by
  intro e;rw [← e,h.blk] at hB;injection hB with hB
  injection hB with _ hB _
  exact absurd hB (by decide)
 have hK : Kept M V (V.setCell ⟨rb,y,none⟩ v) := Kept.store hB (by decide) (Nat.le_trans h.ml hlo)
 refine ⟨(Zf hne).trans h.blk,h.lo,h.ml,h.cvs,Z5 h.tabs hB (by decide),Ze h.gone fun g hg => Zf fun e => h.two rb (by rw [hrv];rfl) (by rw [hg,e]),h.gin.keep hK,?_,(h.rin.set y v row' hr).keep hK,h.two⟩
 have h1 := h.rws;rw [hrv] at h1 ⊢;rw [List.length_set];exact qb5 h1
end Put
namespace Put
open Grd (C)
theorem ShAt.q1f {W : World} {M N p i : Nat} {s : Scr} {rows : List (List C)} {v : Value} (h : ShAt 110 W M N p s rows) : Q3 W (W.setCell ⟨p,i,none⟩ v) := by
 obtain ⟨cv,tv,gv,rv,gvs,vs,h⟩ := h;exact Q3.store h.blk Ve
theorem ShAt.put {W : World} {M N p : Nat} {s s' : Scr} {rows : List (List C)} (h : ShAt 110 W M N p s rows) (i : Nat) (v : Value) (e : ∀ cv tv gv rv,(shA s cv tv gv rv).setIfInBounds i v = shA s' cv tv gv rv) (h1 : s'.tabs = s.tabs) (h2 : s'.gone = s.gone) : ShAt 110 (W.setCell ⟨p,i,none⟩ v) M N p s' rows ∧ Below N W (W.setCell ⟨p,i,none⟩ v) ∧ Q3 W (W.setCell ⟨p,i,none⟩ v) := ⟨h.set Qp i v e h1 h2,(qr _ _).setCell h.lo _,h.q1f⟩
def V9 (s : Scr) (k : Int) : Scr := if s.x + k = s.w then { s with x := s.w - 1,late := hasB s.modes 4 } else { s with x := s.x + k }
theorem ql5 (W : World) (M N p : Nat) (s : Scr) (rows : List (List C)) (k : Int) (hS : ShAt 110 W M N p s rows) (h0 : 0 ≤ s.x) (h1 : s.x ≤ 120) (h2 : 0 ≤ k) (h3 : k ≤ 2) (w1 : 1 ≤ s.w) (w2 : s.w ≤ 120) :
  Calls qP 68 #[.pointer (some ⟨p,0,none⟩),.int .i64 k] W (Ran W M N p (V9 s k) rows) := by
 obtain ⟨c0,c1,c3,c4,c5,c9,c10,c11,c19,f⟩ := hS.words;have f3 := f 3;obtain ⟨hS1,hB1,hF1⟩ := hS.put 3 (.int .i64 (s.x + k)) (s' := { s with x := s.x + k }) (fun _ _ _ _ => rfl) rfl rfl
 have HE : Hid (V9 s k = if s.x + k = s.w then { s with x := s.w - 1,late := hasB s.modes 4 } else { s with x := s.x + k }) := rfl
 generalize V9 s k = s' at *
 by_cases heq : s.x + k = s.w
 ·have HE2 : Hid (s' = { s with x := s.w - 1, late := hasB s.modes 4 }) := by unfold Hid; rw [HE.out, if_pos heq]
  have hq : (s.x + k == s.w) = true := by rw [beq_iff_eq];exact heq
  have HQ : Hid (s.x + k = s.w) := heq;clear heq c1 c4 c5 c9 c10 c11 c19 f HE hS;have HS1 : Hid (ShAt 110 (W.setCell ⟨p,3,none⟩ (.int .i64 (s.x + k))) M N p { s with x := s.x + k } rows) := hS1
  have HB1 : Hid _ := hB1;have HF1 : Hid (Q3 W (W.setCell ⟨p,3,none⟩ (.int .i64 (s.x + k)))) := hF1;clear hS1 hB1 hF1;have hwr : IntKind.i64.wrap (s.x + k) = s.x + k := Zl _ (by omega) (by omega)
  go_enter Tryz.func68,Tryz.ntmps68;go_upto_region 1 with fail
  obtain ⟨d0,-,d3,-,-,-,-,-,-,df⟩ := HS1.out.words;clear c0 c3 f3;generalize (W.setCell ⟨p,3,none⟩ (.int .i64 (s.x + k))) = X at *;go_region;have HSd : Hid (ShAt 110 X.drew M N p { s with x := s.x + k } rows) := HS1.out.drew
  have HB2 : Hid (Below N W X.drew) := HB1.out.drew;have HF2 : Hid (Q3 W X.drew) := HF1.out.trans (Q3.of_below ((qr _ _).drew));obtain ⟨d0,-,d3,-,-,-,-,-,-,df⟩ := HSd.out.words;have g3 := df 3;clear HS1 HB1 HF1 df;generalize X.drew = Y at *;obtain ⟨hS3,hB3,hF3⟩ := HSd.out.put 3 (.int .i64 (s.w - 1)) (s' := { s with x := s.w - 1 }) (fun _ _ _ _ => rfl) rfl rfl
  have H2 := Kk 4 _ hS3;obtain ⟨e0,-,e3,-,e5,-,-,-,-,ef⟩ := hS3.words;obtain ⟨hS4,hB4,hF4⟩ := hS3.put 5 (.bool (hasB s.modes 4)) (s' := { s with x := s.w - 1,late := hasB s.modes 4 }) (fun _ _ _ _ => rfl) rfl rfl
  have HR : Hid (Ran W M N p s' rows (.returned (.tuple #[])) ((Y.setCell ⟨p,3,none⟩ (.int .i64 (s.w - 1))).setCell ⟨p,5,none⟩ (.bool (hasB s.modes 4)))) := by
   unfold Hid;rw [HE2.out];exact ⟨rfl,hS4,HB2.out.trans (hB3.trans hB4),HF2.out.trans (hF3.trans hF4)⟩
  have g5 := ef 5;clear hS3 hB3 hF3 hS4 hB4 hF4 ef e0 e3;generalize hasB s.modes 4 = hb at *;go_wp2_with fail;refine H2.mono ?_;rintro e V ⟨rfl,hv⟩;subst hv;go_wp2_with fail;go_end0;exact HR.out
 ·have HE2 : Hid (s' = { s with x := s.x + k }) := by unfold Hid; rw [HE.out, if_neg heq]
  have hq : (s.x + k == s.w) = false := by rw [beq_eq_false_iff_ne];exact heq
  clear heq c1 c4 c5 c9 c10 c11 c19 f HE hS;have HS1 : Hid (ShAt 110 (W.setCell ⟨p,3,none⟩ (.int .i64 (s.x + k))) M N p { s with x := s.x + k } rows) := hS1
  have HB1 : Hid _ := hB1;have HF1 : Hid (Q3 W (W.setCell ⟨p,3,none⟩ (.int .i64 (s.x + k)))) := hF1;clear hS1 hB1 hF1;have hwr : IntKind.i64.wrap (s.x + k) = s.x + k := Zl _ (by omega) (by omega)
  go_enter Tryz.func68,Tryz.ntmps68;go_upto_region 1 with fail
  obtain ⟨d0,-,d3,-,-,-,-,-,-,df⟩ := HS1.out.words;clear c0 c3 f3 df;generalize (W.setCell ⟨p,3,none⟩ (.int .i64 (s.x + k))) = X at *;go_region;go_wp2_with fail;go_end0;rw [HE2.out];exact ⟨rfl,HS1.out.drew,HB1.out.drew,HF1.out.trans (Q3.of_below ((qr _ _).drew))⟩
def Uc (s : Scr) : Scr := if s.y < s.h - 1 then { s with late := false,y := s.y + 1 } else { s with late := false }
theorem qb0 (W : World) (M N p : Nat) (s : Scr) (rows : List (List C)) (hS : ShAt 110 W M N p s rows) (h0 : 0 ≤ s.y) (h1 : s.y ≤ 60) (w1 : 1 ≤ s.h) (w2 : s.h ≤ 60) (hne : s.y ≠ s.bot) :
  Calls qP 65 #[.pointer (some ⟨p,0,none⟩)] W (Ran W M N p (Uc s) rows) := by
 obtain ⟨c0,c1,c3,c4,c5,c9,c10,c11,c19,f⟩ := hS.words;have f5 := f 5;obtain ⟨hS1,hB1,hF1⟩ := hS.put 5 (.bool false) (s' := { s with late := false }) (fun _ _ _ _ => rfl) rfl rfl
 have HE : Hid (Uc s = if s.y < s.h - 1 then { s with late := false,y := s.y + 1 } else { s with late := false }) := rfl
 generalize Uc s = s' at *;have hq : (s.y == s.bot) = false := by rw [beq_eq_false_iff_ne];exact hne
 have HS1 : Hid (ShAt 110 (W.setCell ⟨p,5,none⟩ (.bool false)) M N p { s with late := false } rows) := hS1
 have HB1 : Hid _ := hB1;have HF1 : Hid (Q3 W (W.setCell ⟨p,5,none⟩ (.bool false))) := hF1;clear hS1 hB1 hF1 hS hne c0 c1 c3 c4 c9 c10 c11 c19 f;have hwr : IntKind.i64.wrap (s.h - 1) = s.h - 1 := Zl _ (by omega) (by omega)
 go_enter Tryz.func65,Tryz.ntmps65;go_upto_region 1 with fail
 obtain ⟨-,d1,-,d4,-,-,d10,-,-,df⟩ := HS1.out.words;clear c5 f5 df;generalize (W.setCell ⟨p,5,none⟩ (.bool false)) = X at *;go_region;have HSd : Hid (ShAt 110 X.drew M N p { s with late := false } rows) := HS1.out.drew
 have HB2 : Hid (Below N W X.drew) := HB1.out.drew;have HF2 : Hid (Q3 W X.drew) := HF1.out.trans (Q3.of_below ((qr _ _).drew));clear d1 d4 d10 HS1 HB1 HF1;generalize X.drew = Y at *;obtain ⟨-,d1,-,d4,-,-,d10,-,-,df⟩ := HSd.out.words;clear df
 by_cases hlt : s.y < s.h - 1
 ·have HE2 : Hid (s' = { s with late := false, y := s.y + 1 }) := by unfold Hid; rw [HE.out, if_pos hlt]
  go_upto_region 3 with fail
  go_region;have HSe : Hid (ShAt 110 Y.drew M N p { s with late := false } rows) := HSd.out.drew
  have HB3 : Hid (Below N W Y.drew) := HB2.out.drew;have HF3 : Hid (Q3 W Y.drew) := HF2.out.trans (Q3.of_below ((qr _ _).drew));clear d1 d4 d10 HSd HB2 HF2;generalize Y.drew = Z at *;obtain ⟨-,d1,-,d4,-,-,d10,-,-,df⟩ := HSe.out.words;have g4 := df 4;have hw2 : IntKind.i64.wrap (s.y + 1) = s.y + 1 := Zl _ (by omega) (by omega)
  obtain ⟨hS4,hB4,hF4⟩ := HSe.out.put 4 (.int .i64 (s.y + 1)) (s' := { s with late := false,y := s.y + 1 }) (fun _ _ _ _ => rfl) rfl rfl
  have HR : Hid (Ran W M N p s' rows (.returned (.tuple #[])) (Z.setCell ⟨p,4,none⟩ (.int .i64 (s.y + 1)))) := by
   unfold Hid;rw [HE2.out];exact ⟨rfl,hS4,HB3.out.trans hB4,HF3.out.trans hF4⟩
  clear hS4 hB4 hF4 df;go_wp2_with fail;go_end0;exact HR.out
 ·have HE2 : Hid (s' = { s with late := false }) := by unfold Hid; rw [HE.out, if_neg hlt]
  go_upto_region 3 with fail
  go_region;go_wp2_with fail;go_end0;rw [HE2.out];exact ⟨rfl,HSd.out.drew,HB2.out.drew,HF2.out.trans (Q3.of_below ((qr _ _).drew))⟩
end Put
namespace Put
open Grd (C SliceAt Qb Qf z0 Q0 flat Qe Y5 Js)
theorem Yi {α : Type} (l : List α) (i j : Nat) (d : α) : (l.eraseIdx i).getD j d = if j < i then l.getD j d else l.getD (j + 1) d := by
 simp only [qy,List.getElem?_eraseIdx];split <;> rfl
theorem Kv {α : Type} (l : List α) (i j : Nat) (x d : α) (hi : i ≤ l.length) : (l.insertIdx i x).getD j d = if j < i then l.getD j d else if j = i then x else l.getD (j - 1) d := by
 simp only [qy,List.getElem?_insertIdx]
 by_cases h1 : j < i
 ·rw [if_pos h1,if_pos h1]
 ·rw [if_neg h1, if_neg h1]
  by_cases h2 : j = i
  ·subst h2
   rw [if_pos rfl,if_pos rfl,if_pos hi]
   rfl
  ·rw [if_neg h2,if_neg h2]
theorem RowsIn.erase {W : World} {N : Nat} {vs : List Value} {rows : List (List C)} (h : RowsIn W N vs rows) (i : Nat) (hi : i < rows.length) : RowsIn W N (vs.eraseIdx i) (rows.eraseIdx i) := by
 have hl := h.1;refine ⟨by rw [List.length_eraseIdx_of_lt (by omega),List.length_eraseIdx_of_lt hi,hl],fun j hj => ?_⟩
 rw [List.length_eraseIdx_of_lt hi] at hj;rw [Yi,Yi];split
 ·exact h.2 j (by omega)
 ·exact h.2 (j + 1) (by omega)
theorem RowsIn.insert {W : World} {N : Nat} {vs : List Value} {rows : List (List C)} (h : RowsIn W N vs rows) (i : Nat) (hi : i ≤ rows.length) (v : Value) (row : List C) (hr : X3 W N v row) : RowsIn W N (vs.insertIdx i v) (rows.insertIdx i row) := by
 have hl := h.1;refine ⟨by rw [List.length_insertIdx_of_le_length (by omega),List.length_insertIdx_of_le_length hi,hl],fun j hj => ?_⟩
 rw [List.length_insertIdx_of_le_length hi] at hj;rw [Kv _ _ _ _ _ (by omega),Kv _ _ _ _ _ hi]
 split
 ·exact h.2 j (by omega)
 ·split
  ·exact hr
  ·exact h.2 (j - 1) (by omega)
theorem RowsIn.sls {W : World} {N : Nat} {vs : List Value} {rows : List (List C)} (h : RowsIn W N vs rows) : ∀ v,v ∈ vs → IsSl v := by
 intro v hv;obtain ⟨i,hi,rfl⟩ := List.mem_iff_getElem.1 hv;obtain ⟨a,c,e⟩ := (h.2 i (by rw [← h.1];exact hi)).shape
 have e2 : vs.getD i Q0 = vs[i] := by simp [qy,hi]
 rw [e2] at e;exact ⟨(a,_,c),e⟩
theorem q19 {W : World} {N : Nat} {v : Value} {row : List C} (h : X3 W N v row) : IsSl v := by
 obtain ⟨a,c,e⟩ := h.shape;exact ⟨(a,_,c),e⟩
theorem ShA.qws {W V : World} {M N p : Nat} {s : Scr} {rows : List (List C)} {cv tv gv rv : Value} {gvs vs : List Value} {rb : Nat} (h : ShA 110 W M N p s rows cv tv gv rv gvs vs) (hrb : rv.ownBlock = some rb) (ho : ∀ k,k < W.heap.size → k ≠ rb → V.heap[k]? = W.heap[k]?) : Kept M W V := fun k hk hS => ho k hk fun e => by
 obtain ⟨hlo,A,f,hA⟩ := Qn h.rws rb hrb;subst e
 rcases hS with hS | ⟨B,f',hS⟩
 ·have := h.ml
  omega
 ·rw [hA] at hS
  injection hS with hS
  injection hS with _ hS _
  exact absurd hS (by decide)
theorem ShA.qsy {W V : World} {M N p : Nat} {s : Scr} {rows rows' : List (List C)} {cv tv gv rv rv' : Value} {gvs vs vs' : List Value} {rb : Nat} (h : ShA 110 W M N p s rows cv tv gv rv gvs vs) (hrb : rv.ownBlock = some rb) (hrb' : rv'.ownBlock = some rb)
  (ho : ∀ k,k < W.heap.size → k ≠ rb → V.heap[k]? = W.heap[k]?) (hw : V.ownsRow N 22 1 rv' rows'.length vs') (hr : RowsIn V M vs' rows') :
  ShA 110 (V.setCell ⟨p,22,none⟩ rv') M N p s rows' cv tv gv rv' gvs vs' := by
 obtain ⟨hlo,A,f,hA⟩ := Qn h.rws rb hrb;have hpr : p ≠ rb := by
  intro e;rw [← e,h.blk] at hA;injection hA with hA
  injection hA with _ hA _
  exact absurd hA (by decide)
 have hp : V.heap[p]? = some (.cells (shA s cv tv gv rv) 110 (0,0)) := (ho p (Qc h.blk) hpr).trans h.blk;have hk1 : Kept M W V := fun k hk hS => ho k hk fun e => by
  subst e
  rcases hS with hS | ⟨B,f',hS⟩
  ·have := h.ml
   omega
  ·rw [hA] at hS
   injection hS with hS
   injection hS with _ hS _
   exact absurd hS (by decide)
 have hk2 : Kept M V (V.setCell ⟨p,22,none⟩ rv') := Kept.store hp (by decide) (Nat.le_trans h.ml h.lo)
 have hof : ∀ {e : TypeId} {v : Value} {n : Nat} {xs : List Value},e ≠ 110 → (∀ k,v.ownBlock = some k → k ≠ rb) → W.ownsRow N e 1 v n xs → (V.setCell ⟨p,22,none⟩ rv').ownsRow N e 1 v n xs := fun hte hn hw => by
  refine Z5 (Ze hw fun g hg => ?_) hp (Ne.symm hte)
  obtain ⟨-,B,f',hB⟩ := Qn hw g hg;exact ho g (Qc hB) (hn g hg)
 have hnb : ∀ k,tv.ownBlock = some k → k ≠ rb := fun k hk e => by
  subst e;obtain ⟨-,B,f',hB⟩ := Qn h.tabs k hk;rw [hA] at hB;injection hB with hB
  injection hB with _ hB _
  exact absurd hB (by decide)
 have hng : ∀ k,gv.ownBlock = some k → k ≠ rb := fun k hk e => h.two rb hrb (by rw [hk,e])
 refine ⟨X9 hp rfl,h.lo,h.ml,h.cvs,hof (by decide) hnb h.tabs,hof (by decide) hng h.gone,(h.gin.keep hk1).keep hk2,Z5 hw hp (by decide),hr.keep hk2,fun k hk e => ?_⟩
 rw [hrb'] at hk;exact hng k e (Option.some.inj hk).symm
theorem q2a (a : Int) (b c d : Int) : (#[.int .i32 a,.int .i64 b,.int .i64 c,.int .i64 d] : Array Value).all (·.oneCell') = true := by simp [Value.oneCell']
theorem qfz (p : Nat) (bk : Int) (V : World) (h : V.cell? ⟨p,7,none⟩ = some (.int .i64 bk)) : Calls qP 175 #[.pointer (some ⟨p,0,none⟩)] V fun e V' => e = .returned (.agg #[.int .i32 32,.int .i64 0,.int .i64 bk,.int .i64 0]) ∧ Below V.heap.size V V' := by
 have x0 := qf V (.cells #[.int .i32 0,.int .i64 0,.int .i64 0,.int .i64 0] 56);have kb : Below V.heap.size V (V.alloc (.cells #[.int .i32 0,.int .i64 0,.int .i64 0,.int .i64 0] 56)) := (qr _ _).alloc (qd _) _;have h1 := Qa kb h;have HX0 : Hid _ := x0;have HKB : Hid _ := kb;clear x0 kb h;go_enter Tryz.func175,Tryz.ntmps175;go_upto_region 1 with fail
 generalize V.alloc (.cells #[.int .i32 0,.int .i64 0,.int .i64 0,.int .i64 0] 56) = Y at *;go_wp2_with (refine wpList_store_row rfl 56 (.tmp 2) _ rfl V.heap.size #[.int .i32 32,.int .i64 0,.int .i64 bk,.int .i64 0] rfl rfl _ _ HX0.out (by kernel_rfl) rfl (q2a _ _ _ _) ?_)
 (try simp only [Exit.inBlock,Exit.then])
 refine bodyPost_ret (v := .agg #[.int .i32 32,.int .i64 0,.int .i64 bk,.int .i64 0]) ?_ rfl ⟨rfl,below_setRow HKB.out (qd _) _⟩;exact results_cell_row rfl _ _ V.heap.size _ _ _ _ rfl (setRow_heap _ _ _ _ _ _ HX0.out) Tryz.underlying56 rfl (by kernel_rfl)
theorem cells_one (V : World) (c : C) : Qb (V.alloc (.cells #[.int .i32 c.1,.int .i64 c.2.1,.int .i64 c.2.2.1,.int .i64 c.2.2.2] 56)) V.heap.size 0 [c] := fun j hj => by
 have h := qf V (.cells #[.int .i32 c.1,.int .i64 c.2.1,.int .i64 c.2.2.1,.int .i64 c.2.2.2] 56);generalize V.alloc (.cells #[.int .i32 c.1,.int .i64 c.2.1,.int .i64 c.2.2.1,.int .i64 c.2.2.2] 56) = X at *
 match j,hj with
 | 0,_ => exact ⟨by simp [World.cell?,h],by simp [World.cell?,h],by simp [World.cell?,h],by simp [World.cell?,h]⟩
theorem G5 (p n : Nat) (bk : Int) (W : World) (h7 : W.cell? ⟨p, 7, none⟩ = some (.int .i64 bk)) (hn1 : 1 ≤ n) (hn2 : n ≤ 120) :
  Calls qP 115 #[.pointer (some ⟨p,0,none⟩),.int .i64 (n : Int)] W fun e W' => ∃ a c g,e = .returned (.slice a n c) ∧ W.heap.size ≤ g ∧ Js W' g (.slice a n c) (qe n (32,0,bk,0)) ∧ Below W.heap.size W W' := by
 have HB := qfz p bk W h7;have HRP : Hid (∀ V : World,Calls qP 60 #[.slice (some ⟨V.heap.size,0,none⟩) 1 1,.int .i64 (n : Int)] (V.alloc (.cells #[.int .i32 32,.int .i64 0,.int .i64 bk,.int .i64 0] 56)) fun e w' => ∃ v',e = .returned v' ∧ Y5 w' (V.alloc (.cells #[.int .i32 32,.int .i64 0,.int .i64 bk,.int .i64 0] 56)).heap.size v' (qe n (32,0,bk,0)) ∧ Below (V.alloc (.cells #[.int .i32 32,.int .i64 0,.int .i64 bk,.int .i64 0] 56)).heap.size (V.alloc (.cells #[.int .i32 32,.int .i64 0,.int .i64 bk,.int .i64 0] 56)) w') := fun V => Grd.qg2 V.heap.size 0 1 n (32,0,bk,0) _ (cells_one V (32,0,bk,0)) hn1 (by omega)
 clear h7;go_enter Tryz.func115,Tryz.ntmps115;go_wp2_with fail;refine HB.mono ?_;rintro e V1 ⟨rfl,b1⟩;clear HB;go_wp2_with fail;refine (HRP.out V1).mono ?_;rintro e V2 ⟨v2,rfl,ho,b2⟩;have q2 := b1.alloc b1.size (.cells #[.int .i32 32,.int .i64 0,.int .i64 bk,.int .i64 0] 56);have q3 := q2.trans (b2.mono q2.size);obtain ⟨g,hg1,hr⟩ := qmh ho;obtain ⟨cap,rest,hv,hc1,hc2,hh⟩ := hr;subst hv;go_wp2_with fail;go_ret;refine ⟨_,cap,g,rfl,by have := q2.size;omega,⟨cap,rest,by rw [List.length_replicate],hc1,hc2,hh⟩,q3⟩
theorem qne (p : Nat) (bk : Int) (W : World) (h7 : W.cell? ⟨p, 7, none⟩ = some (.int .i64 bk)) :
  Calls qP 115 #[.pointer (some ⟨p,0,none⟩),.int .i64 0] W fun e W' => ∃ a c g,e = .returned (.slice a 0 c) ∧ W.heap.size ≤ g ∧ Js W' g (.slice a 0 c) [] ∧ Below W.heap.size W W' := by
 have HB := qfz p bk W h7;have HRP : Hid (∀ V : World,Calls qP 60 #[.slice (some ⟨V.heap.size,0,none⟩) 1 1,.int .i64 0] (V.alloc (.cells #[.int .i32 32,.int .i64 0,.int .i64 bk,.int .i64 0] 56)) fun e w' => ∃ v',e = .returned v' ∧ Y5 w' (V.alloc (.cells #[.int .i32 32,.int .i64 0,.int .i64 bk,.int .i64 0] 56)).heap.size v' [] ∧ Below (V.alloc (.cells #[.int .i32 32,.int .i64 0,.int .i64 bk,.int .i64 0] 56)).heap.size (V.alloc (.cells #[.int .i32 32,.int .i64 0,.int .i64 bk,.int .i64 0] 56)) w') := fun V => Grd.qm6 _ 0 1 (32,0,bk,0) _ (cells_one V (32,0,bk,0))
 clear h7;go_enter Tryz.func115,Tryz.ntmps115;go_wp2_with fail;refine HB.mono ?_;rintro e V1 ⟨rfl,b1⟩;clear HB;go_wp2_with fail;refine (HRP.out V1).mono ?_;rintro e V2 ⟨v2,rfl,ho,b2⟩;have q2 := b1.alloc b1.size (.cells #[.int .i32 32,.int .i64 0,.int .i64 bk,.int .i64 0] 56);have q3 := q2.trans (b2.mono q2.size);obtain ⟨g,hg1,hr⟩ := qmh ho;obtain ⟨cap,rest,hv,hc1,hc2,hh⟩ := hr;subst hv;go_wp2_with fail;go_ret;exact ⟨_,cap,g,rfl,by have := q2.size;omega,⟨cap,rest,rfl,hc1,hc2,hh⟩,q3⟩
theorem qgs (p n : Nat) (bk : Int) (W : World) (h7 : W.cell? ⟨p, 7, none⟩ = some (.int .i64 bk)) (hn2 : n ≤ 120) :
  Calls qP 115 #[.pointer (some ⟨p,0,none⟩),.int .i64 (n : Int)] W fun e W' => ∃ a c g,e = .returned (.slice a n c) ∧ W.heap.size ≤ g ∧ Js W' g (.slice a n c) (qe n (32,0,bk,0)) ∧ Below W.heap.size W W' := by
 rcases Nat.eq_zero_or_pos n with rfl | h
 ·exact qne p bk W h7
 ·exact G5 p n bk W h7 h hn2
def Zq (rows : List (List C)) (n : Nat) (bk : Int) (gone fresh : Nat) : List (List C) := (rows.eraseIdx gone).insertIdx fresh (qe n (32,0,bk,0))
theorem Xm (rows : List (List C)) (n : Nat) (bk : Int) (gone fresh : Nat) (hg : gone < rows.length) (hf : fresh < rows.length) : (Zq rows n bk gone fresh).length = rows.length := by
 unfold Zq;rw [List.length_insertIdx_of_le_length (by rw [List.length_eraseIdx_of_lt hg];omega),List.length_eraseIdx_of_lt hg]
 omega
theorem qbc (rows : List (List C)) (n : Nat) (bk : Int) (gone fresh : Nat) (hg : gone < rows.length) (hf : fresh < rows.length) (hn : ∀ i,i < rows.length → (rows.getD i []).length = n) (i : Nat) (hi : i < rows.length) : ((Zq rows n bk gone fresh).getD i []).length = n := by
 have hl : (rows.eraseIdx gone).length = rows.length - 1 := List.length_eraseIdx_of_lt hg;have he : ∀ j,j < rows.length - 1 → ((rows.eraseIdx gone).getD j []).length = n := fun j hj => by
  rw [Yi];split
  ·exact hn j (by omega)
  ·exact hn (j + 1) (by omega)
 unfold Zq;rw [Kv _ _ _ _ _ (by omega)]
 split
 ·exact he i (by omega)
 ·split
  ·simp
  ·exact he (i - 1) (by omega)
set_option linter.unusedSimpArgs false in
theorem qes (W : World) (M N p n : Nat) (s : Scr) (rows : List (List C)) (hS : ShAt 110 W M N p s rows) (gone fresh : Nat) (hw : s.w = n) (hn1 : 1 ≤ n) (hn2 : n ≤ 120) (hg : gone < rows.length) (hf : fresh < rows.length) (hrl : rows.length ≤ 60) :
  Calls qP 183 #[.pointer (some ⟨p,0,none⟩),.int .i64 (gone : Int),.int .i64 (fresh : Int)] W (Ran W M N p s (Zq rows n s.sb gone fresh)) := by
 obtain ⟨cv,tv,gv,rv,gvs,vs,hS⟩ := hS;obtain ⟨rb,rc,hrv,hrb,hrc1,hrc2,hvl,hrcell,A,hrA⟩ := Gc hS.rws (by omega)
 subst hrv;have HD := qgz N rb rows.length rc gone vs W hS.rws hS.rin.sls hg;obtain ⟨⟨c0,-⟩,⟨-,-,-,-,-,-,-,-,-,-,-,c22⟩,f⟩ := Qr hS.blk;have hpr : p ≠ rb := by
  intro e;rw [← e,hS.blk] at hrA;injection hrA with hrA
  injection hrA with _ hrA _
  exact absurd hrA (by decide)
 have hlo := hS.lo;have hwg : IntKind.i64.wrap ((gone : Int) + 1) = ((gone + 1 : Nat) : Int) := by rw [Zl _ (by omega) (by omega)];omega
 have HS : Hid (ShA 110 W M N p s rows cv tv gv (.slice (some ⟨rb,0,none⟩) rows.length rc) gvs vs) := hS;clear hS hrcell hvl f c0;go_enter Tryz.func183,Tryz.ntmps183;go_wp2_with fail;refine HD.mono ?_;rintro e V1 ⟨rfl,hO1,hk1,hb1⟩;have hpV := (hk1 p hpr).trans HS.out.blk;have c22' := (Qr hpV).2.1.2.2.2.2.2.2.2.2.2.2.2;have f22 := (Qr hpV).2.2 22;go_upto_region 1 with fail
 have hS1 : ShA 110 (V1.setCell ⟨p, 22, none⟩ (.slice (some ⟨rb, 0, none⟩) (rows.length - 1) rc)) M N p s (rows.eraseIdx gone) cv tv gv (.slice (some ⟨rb, 0, none⟩) (rows.length - 1) rc) gvs (vs.eraseIdx gone) :=
  HS.out.qsy (rb := rb) rfl rfl (fun k _ hk => hk1 k hk) (by rw [List.length_eraseIdx_of_lt hg];exact hO1) ((HS.out.rin.erase gone hg).keep (HS.out.qws (rb := rb) rfl fun k _ hk => hk1 k hk))
 have hB1 : Below N W (V1.setCell ⟨p,22,none⟩ (.slice (some ⟨rb,0,none⟩) (rows.length - 1) rc)) := (hb1.mono hrb).setCell hlo _;have hF1 : Q3 W (V1.setCell ⟨p,22,none⟩ (.slice (some ⟨rb,0,none⟩) (rows.length - 1) rc)) := fun k o hk ho => by
  have e1 : k ≠ rb := by
   intro e;rw [e,hrA] at hk;injection hk with hk
   exact Vs (ho A _ _ hk.symm)
  exact Q3.store hpV Ve k o ((hk1 k e1).trans hk) ho
 have HS1 : Hid _ := hS1;have HB1 : Hid _ := hB1;have HF1 : Hid _ := hF1;clear hS1 hB1 hF1 hO1 hk1 hb1 hpV c22' f22 c22 hrA HS HD;generalize V1.setCell ⟨p,22,none⟩ (.slice (some ⟨rb,0,none⟩) (rows.length - 1) rc) = X at *;have hX := HS1.out;obtain ⟨⟨c0,-,-,-,-,-,-,c7,-⟩,⟨-,-,-,-,-,-,-,-,-,-,-,c22⟩,-⟩ := Qr hX.blk;rw [hw] at c0;have b0 : Below X.heap.size X X.drew := (qr _ _).drew;have hNX : N ≤ X.heap.size := Nat.le_trans hlo (Nat.le_of_lt (Qc hX.blk));have HBL := G5 p n s.sb X.drew (Qa b0 c7) hn1 hn2;have HIN : Hid (∀ (V2 : World) (a : Option Addr) (c g : Nat),Below X.heap.size X V2 → Js V2 g (.slice a n c) (qe n (32,0,s.sb,0)) → Calls qP 224 #[.slice (some ⟨rb,0,none⟩) (rows.length - 1) rc,.int .i64 (fresh : Int),.slice (some ⟨V2.heap.size,0,none⟩) 1 1] (V2.alloc (.cells #[.slice a n c] 22)) fun e V3 => e = .returned (.slice (some ⟨rb,0,none⟩) (rows.length - 1 + 1) rc) ∧ V3.cell? ⟨p,22,none⟩ = some (.slice (some ⟨rb,0,none⟩) (rows.length - 1) rc) ∧ V3.frozen? ⟨p,22,none⟩ = false ∧ Hid (Ran W M N p s (Zq rows n s.sb gone fresh) (.returned (.tuple #[])) (V3.setCell ⟨p,22,none⟩ (.slice (some ⟨rb,0,none⟩) (rows.length - 1 + 1) rc)))) := fun V2 a c g q1 hR => by
  have q2 := q1.alloc q1.size (.cells #[.slice a n c] 22);have hS2 := hX.next q2;have hal := qf V2 (.cells #[.slice a n c] 22);have hri : X3 V2 M (.slice a n c) (qe n (32,0,s.sb,0)) := Fh hR;have hle : (rows.eraseIdx gone).length = rows.length - 1 := List.length_eraseIdx_of_lt hg;obtain ⟨-,B,f',hB⟩ := Qn hX.rws rb rfl;have hne : V2.heap.size ≠ rb := by have h1 := Qc hB;have h2 := q1.size;omega
  have key := qq3 N rb (rows.length - 1) rc fresh V2.heap.size 1 (vs.eraseIdx gone) (.slice a n c) _ (by have := hS2.rws;rwa [hle] at this) hS2.rin.sls (q19 hri) (by omega) (by omega) hal hne
  refine Calls.mono key ?_;rintro e V3 ⟨rfl,hO3,hk3,hb3⟩;have hp3 : V3.heap[p]? = _ := (hk3 p hpr).trans hS2.blk;have hri3 : X3 V3 M (.slice a n c) (qe n (32,0,s.sb,0)) := (hri.keep (Kept.of_below ((qr _ _).alloc (qd _) _))).keep (hS2.qws (rb := rb) rfl fun k _ hk => hk3 k hk)
  have hS3 := hS2.qsy (rb := rb) (rv' := .slice (some ⟨rb,0,none⟩) (rows.length - 1 + 1) rc) (rows' := Zq rows n s.sb gone fresh) (vs' := (vs.eraseIdx gone).insertIdx fresh (.slice a n c)) rfl rfl (fun k _ hk => hk3 k hk) (by rw [Xm rows n s.sb gone fresh hg hf,show rows.length = rows.length - 1 + 1 by omega];exact hO3) ((hS2.rin.keep (hS2.qws (rb := rb) rfl fun k _ hk => hk3 k hk)).insert fresh (by omega) _ _ hri3)
  refine ⟨rfl,(Qr hp3).2.1.2.2.2.2.2.2.2.2.2.2.2,(Qr hp3).2.2 22,rfl,⟨_,_,_,_,_,_,hS3⟩,((HB1.out.trans (q2.mono hNX)).trans (hb3.mono hrb)).setCell hlo _,?_⟩;refine (Q3.trans HF1.out (Q3.of_below q2)).trans ?_;intro k o hk ho;have e1 : k ≠ rb := by
   intro e;have hB2 := Grd.carry hB q2;rw [e,hB2] at hk;injection hk with hk
   exact Vs (ho B _ _ hk.symm)
  exact Q3.store hp3 Ve k o ((hk3 k e1).trans hk) ho
 have HC22 : Hid (∀ V,Below X.heap.size X V → V.cell? ⟨p,22,none⟩ = some (.slice (some ⟨rb,0,none⟩) (rows.length - 1) rc)) := fun V h => Qa h c22
 clear hX c7 HS1 HB1 HF1 hw;generalize rows.length - 1 = m at *;generalize Zq rows n s.sb gone fresh = rows' at *
 go_region_with (first
  | (go_at_call 115;refine HBL.mono ?_;rintro e V2 ⟨a,c,g,rfl,hg2,hR,b2⟩;have q1 := b0.trans (b2.mono b0.size);have d22 := HC22.out _ q1;have e22 := HC22.out _ (q1.alloc q1.size (.cells #[.slice a n c] 22));have hI := HIN.out V2 a c g q1 hR;clear hR b2)
  | (go_at_call 224;refine hI.mono ?_;rintro e V3 ⟨rfl,z22,zf,HE⟩))
 all_goals go_wp2_with fail
 all_goals go_end0
 all_goals exact HE.out
def Ye (g : List (List C)) (row : List C) : List (List C) := if g.length < 50 then g ++ [row] else (g ++ [row]).eraseIdx 0
theorem Uv (g : List (List C)) (row : List C) (h : g.length ≤ 50) : (Ye g row).length ≤ 50 := by
 unfold Ye;split
 ·rw [List.length_append, List.length_singleton]
  omega
 ·rw [List.length_eraseIdx_of_lt (by simp), List.length_append, List.length_singleton]
  omega
theorem RowsIn.push {W : World} {N : Nat} {vs : List Value} {rows : List (List C)} (h : RowsIn W N vs rows) (v : Value) (row : List C) (hr : X3 W N v row) : RowsIn W N (vs ++ [v]) (rows ++ [row]) := by
 have hl := h.1;refine ⟨by simp [hl],fun i hi => ?_⟩
 rw [List.length_append,List.length_singleton] at hi;simp only [qy]
 by_cases e : i < rows.length
 ·rw [List.getElem?_append_left (by omega), List.getElem?_append_left e]
  exact h.2 i e
 ·have e2 : i = rows.length := by omega
  subst e2;rw [List.getElem?_append_right (by omega),List.getElem?_append_right (qd _),hl]
  simpa using hr
theorem quz (W : World) (v : Value) (t : TypeId) : ∀ j u,[v][j]? = some u → (W.alloc (.cells #[v] t)).cell? ((⟨W.heap.size,0,none⟩ : Addr).add j) = some u := fun j u hj => by
 have h := qf W (.cells #[v] t);generalize W.alloc (.cells #[v] t) = X at *;rw [Addr.add_lit]
 match j,hj with
 | 0,hj =>
  rw [← Option.some.inj hj];simp [World.cell?,h]
theorem ShA.qss {W V : World} {M N p : Nat} {s s' : Scr} {rows : List (List C)} {cv tv gv gv' rv : Value} {gvs vs gvs' : List Value} (h : ShA 110 W M N p s rows cv tv gv rv gvs vs) (hs' : { s with gone := s'.gone } = s')
  (ho : ∀ k,k < W.heap.size → some k ≠ gv.ownBlock → V.heap[k]? = W.heap[k]?) (hw : V.ownsRow N 22 1 gv' s'.gone.length gvs') (hr : RowsIn V M gvs' s'.gone) (hat : gv'.ownBlock = gv.ownBlock ∨ ∃ k,gv'.ownBlock = some k ∧ W.heap.size ≤ k) :
  ShA 110 (V.setCell ⟨p,21,none⟩ gv') M N p s' rows cv tv gv' rv gvs' vs := by
 have hgb : ∀ k A t,W.heap[k]? = some (.cells A t (0,0)) → t ≠ 22 → some k ≠ gv.ownBlock := fun k A t hk ht e => by
  obtain ⟨-,B,f,hB⟩ := Qn h.gone k e.symm;rw [hk] at hB;injection hB with hB
  injection hB with _ hB _
  exact ht hB
 have hp : V.heap[p]? = some (.cells (shA s cv tv gv rv) 110 (0,0)) := (ho p (Qc h.blk) (hgb p _ _ h.blk (by decide))).trans h.blk
 have hk1 : Kept M W V := fun k hk hS => ho k hk fun e => by
  obtain ⟨hlo,B,f,hB⟩ := Qn h.gone k e.symm
  rcases hS with hS | ⟨A,f',hS⟩
  ·have := h.ml
   omega
  ·rw [hB] at hS
   injection hS with hS
   injection hS with _ hS _
   exact absurd hS (by decide)
 have hk2 : Kept M V (V.setCell ⟨p,21,none⟩ gv') := Kept.store hp (by decide) (Nat.le_trans h.ml h.lo)
 have hof : ∀ {e : TypeId} {v : Value} {n : Nat} {xs : List Value},e ≠ 110 → (∀ k,v.ownBlock = some k → some k ≠ gv.ownBlock) → W.ownsRow N e 1 v n xs → (V.setCell ⟨p,21,none⟩ gv').ownsRow N e 1 v n xs := fun hte hn hw => by
  refine Z5 (Ze hw fun g hg => ?_) hp (Ne.symm hte)
  obtain ⟨-,B,f',hB⟩ := Qn hw g hg;exact ho g (Qc hB) (hn g hg)
 have htb : s'.tabs = s.tabs := by rw [← hs']
 refine ⟨X9 hp ?_,h.lo,h.ml,h.cvs,?_,Z5 hw hp (by decide),hr.keep hk2,hof (by decide) (fun k hk e => h.two k hk e.symm) h.rws,(h.rin.keep hk1).keep hk2,fun k hk e => ?_⟩
 ·rw [← hs']
  rfl
 ·rw [htb]
  refine hof (by decide) (fun k hk e => ?_) h.tabs
  obtain ⟨-,B,f,hB⟩ := Qn h.tabs k hk;obtain ⟨-,A,f',hA⟩ := Qn h.gone k e.symm;rw [hA] at hB;injection hB with hB
  injection hB with _ hB _
  exact absurd hB (by decide)
 ·rcases hat with hat | ⟨q, hq, hlt⟩
  ·rw [hat] at e
   exact h.two k hk e
  ·rw [hq] at e
   obtain ⟨-,B,f,hB⟩ := Qn h.rws k hk;have := Qc hB;have := Option.some.inj e;omega
theorem ShA.q0w {W V : World} {M N p : Nat} {s : Scr} {rows : List (List C)} {cv tv gv rv : Value} {gvs vs : List Value} (h : ShA 110 W M N p s rows cv tv gv rv gvs vs) (ho : ∀ k,k < W.heap.size → some k ≠ gv.ownBlock → V.heap[k]? = W.heap[k]?) : Kept M W V := fun k hk hS => ho k hk fun e => by
 obtain ⟨hlo,B,f,hB⟩ := Qn h.gone k e.symm
 rcases hS with hS | ⟨A,f',hS⟩
 ·have := h.ml
  omega
 ·rw [hB] at hS
  injection hS with hS
  injection hS with _ hS _
  exact absurd hS (by decide)
theorem ShA.qsg {W V : World} {M N p : Nat} {s : Scr} {rows : List (List C)} {cv tv gv rv gv' : Value} {gvs vs : List Value} (h : ShA 110 W M N p s rows cv tv gv rv gvs vs) (ho : ∀ k,k < W.heap.size → some k ≠ gv.ownBlock → V.heap[k]? = W.heap[k]?) (hp : V.heap[p]? = some (.cells (shA s cv tv gv rv) 110 (0,0))) : Q3 W (V.setCell ⟨p,21,none⟩ gv') := fun k o hk hO => by
 refine Q3.store hp Ve k o ((ho k (Qc hk) fun e => ?_).trans hk) hO
 obtain ⟨-,B,f,hB⟩ := Qn h.gone k e.symm;rw [hk] at hB;injection hB with hB
 exact Vs (hO B _ _ hB)
theorem qm7 {W V : World} {N : Nat} {row : Option Nat} (h : W.grownBy V row) (hr : ∀ k, row = some k → N ≤ k) (hN : N ≤ W.heap.size) : Below N W V :=
 ⟨h.os,h.tape,h.output,h.size,fun k hk => h.block k (by omega) fun e => by have := hr k e.symm;omega⟩
theorem qx9 (W : World) (M N p : Nat) (s : Scr) (rows : List (List C)) (hS : ShAt 110 W M N p s rows) (v : Value) (row : List C) (hv : X3 W M v row) (hgl : s.gone.length ≤ 50) :
  Calls qP 172 #[.pointer (some ⟨p,0,none⟩),v] W (Ran W M N p { s with gone := Ye s.gone row } rows) := by
 obtain ⟨cv,tv,gv,rv,gvs,vs,hS⟩ := hS;obtain ⟨va,vc,rfl⟩ := hv.shape;obtain ⟨ga,gc,rfl⟩ := Qz hS.gone;obtain ⟨i0,hi,hzz⟩ := Option.map_eq_some_iff.1 qbb;simp only [Prod.mk.injEq] at hzz;obtain ⟨hz0,hz1,hz2⟩ := hzz;have hlo := hS.lo;have hNW : N ≤ W.heap.size := Nat.le_trans hlo (Nat.le_of_lt (Qc hS.blk));have c21 := (Qr hS.blk).2.1.2.2.2.2.2.2.2.2.2.2.1;have k0 : Below W.heap.size W (W.alloc (.cells #[.slice va row.length vc] 22)) := (qr _ _).alloc (qd _) _;have hown : (W.alloc (.cells #[.slice va row.length vc] 22)).ownsRow N 22 1 (.slice ga s.gone.length gc) s.gone.length gvs := hS.gone.alloc _;have HNW : Hid (∀ j u,[Value.slice va row.length vc][j]? = some u → (W.alloc (.cells #[.slice va row.length vc] 22)).cell? ((⟨W.heap.size,0,none⟩ : Addr).add j) = some u) := quz W _ _;have hal := qf W (.cells #[.slice va row.length vc] 22);have HS0 : Hid (ShA 110 (W.alloc (.cells #[.slice va row.length vc] 22)) M N p s rows cv tv (.slice ga s.gone.length gc) rv gvs vs) := hS.next k0;have HRI : Hid (X3 (W.alloc (.cells #[.slice va row.length vc] 22)) M (.slice va row.length vc) row) := hv.keep (Kept.of_below k0);have HK0 : Hid _ := k0;have c21a := Qa k0 c21;have hszW : (W.alloc (.cells #[.slice va row.length vc] 22)).heap.size = W.heap.size + 1 := by simp
 clear hS hv k0 hal;go_enter Tryz.func172,Tryz.ntmps172;go_upto_region 1 with (at_builtin;refine wpList_append_own_at _ rfl _ _ 30 rfl N 22 i0 (.slice none 0 0) 1 24 Jh hi hz0 hz1 hz2 rfl (by decide) (.slice ga s.gone.length gc) s.gone.length gvs rfl hown ⟨W.heap.size,0,none⟩ 1 1 [.slice va row.length vc] rfl rfl HNW.out (by intro u hu;simp at hu;rw [hu];rfl) (by unfold maxLen;omega) (by omega) (by omega) ?_;intro gv' W2 hown' hgr hnil hat;obtain ⟨ga',gc',rfl⟩ := Qz hown';have hp2 := (hgr.block p (Qc HS0.out.blk) (fun e => (by obtain ⟨-,B,f,hB⟩ := Qn HS0.out.gone p e.symm;rw [HS0.out.blk] at hB;injection hB with hB;injection hB with _ hB _;exact absurd hB (by decide)))).trans HS0.out.blk;have z21 := (Qr hp2).2.1.2.2.2.2.2.2.2.2.2.2.1;have f21 := (Qr hp2).2.2 21;clear hnil)
 have hho : ∀ k,k < (W.alloc (.cells #[.slice va row.length vc] 22)).heap.size → some k ≠ (Value.slice ga s.gone.length gc).ownBlock → W2.heap[k]? = (W.alloc (.cells #[.slice va row.length vc] 22)).heap[k]? := fun k hk hne => hgr.block k hk hne
 have hS2 : ShA 110 (W2.setCell ⟨p, 21, none⟩ (.slice ga' (s.gone.length + 1) gc')) M N p { s with gone := s.gone ++ [row] } rows cv tv (.slice ga' (s.gone.length + 1) gc') rv (gvs ++ [.slice va row.length vc]) vs :=
  HS0.out.qss (s' := { s with gone := s.gone ++ [row] }) rfl hho (by simpa using hown') ((HS0.out.gin.push _ _ HRI.out).keep (HS0.out.q0w hho)) (hat.imp id fun h => ⟨_,h,qd _⟩)
 have hB2 : Below N W (W2.setCell ⟨p,21,none⟩ (.slice ga' (s.gone.length + 1) gc')) := ((HK0.out.mono hNW).trans (qm7 hgr (fun k e => (Qn HS0.out.gone k e).1) (by omega))).setCell hlo _
 have hF2 : Q3 W (W2.setCell ⟨p,21,none⟩ (.slice ga' (s.gone.length + 1) gc')) := (Q3.of_below HK0.out).trans (HS0.out.qsg hho hp2);have HS2 : Hid _ := hS2;have HB2 : Hid _ := hB2;have HF2 : Hid (Q3 W (W2.setCell ⟨p,21,none⟩ (.slice ga' (s.gone.length + 1) gc'))) := hF2;have d21 := (Qr hS2.blk).2.1.2.2.2.2.2.2.2.2.2.2.1;clear hS2 hB2 hF2 hho hat hown' hgr hp2 z21 f21 HS0 HK0 HRI HNW hown c21 c21a hszW hi hz0 hz1 hz2;generalize W2.setCell ⟨p,21,none⟩ (.slice ga' (s.gone.length + 1) gc') = X at *
 by_cases hlt : s.gone.length < 50
 ·have HE : Hid (Ye s.gone row = s.gone ++ [row]) := by unfold Hid Ye; rw [if_pos hlt]
  have hl1 : ¬ ((50 : Int) < (s.gone.length : Int) + 1) := by omega
  go_wp2_with fail;go_end0;refine ⟨rfl,?_,HB2.out,HF2.out⟩;rw [HE.out];exact ⟨_,_,_,_,_,_,HS2.out⟩
 ·have HE : Hid (Ye s.gone row = (s.gone ++ [row]).eraseIdx 0) := by unfold Hid Ye; rw [if_neg hlt]
  have hl1 : (50 : Int) < (s.gone.length : Int) + 1 := by omega
  have hX := HS2.out;have hgo := hX.gone;have hlen : (s.gone ++ [row]).length = s.gone.length + 1 := by simp
  rw [hlen] at hgo;obtain ⟨g,cap,hgv,hgN,-,-,-,-,A,hA⟩ := Gc hgo (by omega)
  injection hgv with e1 _ e3
  subst e1 e3;have HDel := qgz N g (s.gone.length + 1) gc' 0 _ X hgo hX.gin.sls (by omega)
  have hpg : p ≠ g := by
   intro e;rw [← e,hX.blk] at hA;injection hA with hA
   injection hA with _ hA _
   exact absurd hA (by decide)
  have HEND : Hid (∀ V3 : World,V3.ownsRow N 22 1 (.slice (some ⟨g,0,none⟩) (s.gone.length + 1 - 1) gc') (s.gone.length + 1 - 1) ((gvs ++ [Value.slice va row.length vc]).eraseIdx 0) → (∀ k,k ≠ g → V3.heap[k]? = X.heap[k]?) → Below g X V3 → V3.cell? ⟨p,21,none⟩ = some (.slice (some ⟨g,0,none⟩) (s.gone.length + 1) gc') ∧ V3.frozen? ⟨p,21,none⟩ = false ∧ Hid (Ran W M N p { s with gone := Ye s.gone row } rows (.returned (.tuple #[])) (V3.setCell ⟨p,21,none⟩ (.slice (some ⟨g,0,none⟩) (s.gone.length + 1 - 1) gc')))) := fun V3 hO3 hk3 hb3 => by
   have hho : ∀ k,k < X.heap.size → some k ≠ (Value.slice (some ⟨g,0,none⟩) (s.gone.length + 1) gc').ownBlock → V3.heap[k]? = X.heap[k]? := fun k _ hne => hk3 k fun e => hne (by rw [e];rfl)
   have hp3 := (hk3 p hpg).trans hX.blk;have hl2 : (Ye s.gone row).length = s.gone.length + 1 - 1 := by rw [HE.out,List.length_eraseIdx_of_lt (by omega),hlen]
   have hS3 := hX.qss (V := V3) (s' := { s with gone := Ye s.gone row }) (gv' := .slice (some ⟨g,0,none⟩) (s.gone.length + 1 - 1) gc') (gvs' := (gvs ++ [Value.slice va row.length vc]).eraseIdx 0) rfl hho (by show V3.ownsRow N _ 1 _ (Ye s.gone row).length _;rw [hl2];exact hO3) (by show RowsIn V3 M _ (Ye s.gone row);rw [HE.out];exact (hX.gin.keep (hX.q0w hho)).erase 0 (by simp)) (.inl rfl)
   exact ⟨(Qr hp3).2.1.2.2.2.2.2.2.2.2.2.2.1,(Qr hp3).2.2 21,rfl,⟨_,_,_,_,_,_,hS3⟩,(HB2.out.trans (hb3.mono hgN)).setCell hlo _,HF2.out.trans (hX.qsg hho hp3)⟩
  clear hX hgo hlen hA HS2 HB2 HF2 HE;go_wp2_with fail;refine HDel.mono ?_;rintro e V3 ⟨rfl,hO3,hk3,hb3⟩;obtain ⟨z21,f21,HR⟩ := HEND.out V3 hO3 hk3 hb3;clear HEND HDel hO3 hk3 hb3;go_wp2_with fail;go_end0;exact HR.out
theorem qg4 (W : World) (M N p n : Nat) (s : Scr) (rows : List (List C)) (hS : ShAt 110 W M N p s rows) (top bot : Nat) (hb : s.bot = bot) (hw : s.w = n) (hn1 : 1 ≤ n) (hn2 : n ≤ 120) (hg : top < rows.length) (hf : bot < rows.length) (hrl : rows.length ≤ 60) :
  Calls qP 173 #[.pointer (some ⟨p,0,none⟩),.int .i64 (top : Int)] W (Ran W M N p s (Zq rows n s.sb top bot)) := by
 have H := qes W M N p n s rows hS top bot hw hn1 hn2 hg hf hrl;obtain ⟨c0,c1,c3,c4,c5,c9,c10,c11,c19,f⟩ := hS.words;rw [hb] at c10;clear hS c0 c1 c3 c4 c5 c9 c11 c19 f;go_enter Tryz.func173,Tryz.ntmps173;go_wp2_with fail;refine H.mono ?_;rintro e V ⟨rfl,hS1,hB1,hF1⟩;go_wp2_with fail;go_end0;exact ⟨rfl,hS1,hB1,hF1⟩
theorem qim (W : World) (M N p n : Nat) (s : Scr) (rows : List (List C)) (hS : ShAt 110 W M N p s rows) (top bot : Nat) (hb : s.bot = bot) (hw : s.w = n) (hn1 : 1 ≤ n) (hn2 : n ≤ 120) (hg : top < rows.length) (hf : bot < rows.length) (hrl : rows.length ≤ 60) :
  Calls qP 138 #[.pointer (some ⟨p,0,none⟩),.int .i64 (top : Int)] W (Ran W M N p s (Zq rows n s.sb bot top)) := by
 have H := qes W M N p n s rows hS bot top hw hn1 hn2 hf hg hrl;obtain ⟨c0,c1,c3,c4,c5,c9,c10,c11,c19,f⟩ := hS.words;rw [hb] at c10;clear hS c0 c1 c3 c4 c5 c9 c11 c19 f;go_enter Tryz.func138,Tryz.ntmps138;go_wp2_with fail;refine H.mono ?_;rintro e V ⟨rfl,hS1,hB1,hF1⟩;go_wp2_with fail;go_end0;exact ⟨rfl,hS1,hB1,hF1⟩
def upS (s : Scr) (rows : List (List C)) (top : Nat) : Scr := if top = 0 then { s with gone := Ye s.gone (rows.getD 0 []) } else s
theorem qsf (W : World) (M N p n : Nat) (s : Scr) (rows : List (List C)) (hS : ShAt 110 W M N p s rows) (top bot : Nat) (hb : s.bot = bot) (hw : s.w = n) (hn1 : 1 ≤ n) (hn2 : n ≤ 120) (hg : top < rows.length) (hf : bot < rows.length) (hrl : rows.length ≤ 60) (hgl : s.gone.length ≤ 50) :
  Calls qP 112 #[.pointer (some ⟨p,0,none⟩),.int .i64 (top : Int)] W (Ran W M N p (upS s rows top) (Zq rows n s.sb top bot)) := by
 by_cases h0 : top = 0
 ·subst h0
  have HU : Hid (upS s rows 0 = { s with gone := Ye s.gone (rows.getD 0 []) }) := rfl
  obtain ⟨cv,tv,gv,rv,gvs,vs,hA⟩ := hS;obtain ⟨rb,rc,hrv,hrb,hrc1,hrc2,hvl,hrcell,A,hrA⟩ := Gc hA.rws (by omega)
  subst hrv;have c22 := (Qr hA.blk).2.1.2.2.2.2.2.2.2.2.2.2.2;have d0 := hrcell 0 (by omega)
  have hri := hA.rin.2 0 (by omega)
  obtain ⟨va,vc,hsh⟩ := hri.shape;rw [hsh] at d0 hri;have HK := qx9 W M N p s rows ⟨_,_,_,_,_,_,hA⟩ _ _ hri hgl;have HDR : Hid (∀ V,ShAt 110 V M N p { s with gone := Ye s.gone (rows.getD 0 []) } rows → Calls qP 173 #[.pointer (some ⟨p,0,none⟩),.int .i64 ((0 : Nat) : Int)] V (Ran V M N p { s with gone := Ye s.gone (rows.getD 0 []) } (Zq rows n s.sb 0 bot))) := fun V h => qg4 V M N p n _ rows h 0 bot hb hw hn1 hn2 hg hf hrl
  have hl0 : (0 : Int) < (rows.length : Int) := by omega
  clear hA hrA hrcell hvl hsh hri;generalize rows.getD 0 [] = row at *;generalize Zq rows n s.sb 0 bot = rows' at *;go_enter Tryz.func112,Tryz.ntmps112;go_wp2_with fail;refine HK.mono ?_;rintro e V ⟨rfl,hS1,hB1,hF1⟩;have HD2 := HDR.out V hS1;clear HK HDR c22 d0;go_wp2_with fail;refine HD2.mono ?_;rintro e V2 ⟨rfl,hS2,hB2,hF2⟩;go_wp2_with fail;go_end0;rw [HU.out];exact ⟨rfl,hS2,hB1.trans hB2,hF1.trans hF2⟩
 ·have HU : Hid (upS s rows top = s) := by unfold Hid upS; rw [if_neg h0]
  have HD2 := qg4 W M N p n s rows hS top bot hb hw hn1 hn2 hg hf hrl;have hz : ((top : Int) == 0) = false := by simp only [beq_eq_false_iff_ne,ne_eq];omega
  clear hS;go_enter Tryz.func112,Tryz.ntmps112;go_wp2_with fail;refine HD2.mono ?_;rintro e V2 ⟨rfl,hS2,hB2,hF2⟩;go_wp2_with fail;go_end0;rw [HU.out];exact ⟨rfl,hS2,hB2,hF2⟩
end Put
namespace Put
open Grd (C)
theorem qbg {g : List (List C)} {row r : List C} (h : r ∈ Ye g row) : r ∈ g ∨ r = row := by
 unfold Ye at h;split at h
 ·simpa using h
 ·simpa using List.mem_of_mem_eraseIdx h
theorem qpd {s : Scr} {n hh : Nat} (hR : Qg s n hh) (row : List C) (hr : row.length = n) : ∀ r,r ∈ Ye s.gone row → r.length ≤ 120 := by
 intro r hm
 rcases qbg hm with h | h
 ·have := (Vk (hR.gr r h)).2.1
  omega
 ·have := hR.n2
  rw [h,hr];omega
theorem qke {l : List (List C)} (h : ∀ r,r ∈ l → r.length ≤ 120) (i : Nat) (hi : i < l.length) : (l.getD i []).length ≤ 1048576 := by
 have e : l.getD i [] = l[i] := by simp [qy,hi]
 rw [e];have := h _ (List.getElem_mem hi);omega
theorem qfy {s : Scr} {n hh : Nat} (hR : Qg s n hh) : ∀ r,r ∈ s.gone → r.length ≤ 120 := fun r hr => by
 have := (Vk (hR.gr r hr)).2.1;omega
theorem qpt (s s' : Scr) (cv tv gv : Value) (er : Int) (w0 w : World) (hV : Zh w0 s cv tv gv) (hM : w0.heap.size ≤ w.heap.size)
  (hC : ∀ (W : World) (_B : Nat),Below w.heap.size w W → Calls qP 130 #[.agg (scrA s cv tv gv),.func (.func 65) #[] #[]] W (Made w0 W s' er)) :
  Calls qP 90 #[.agg (scrA s cv tv gv)] w (Made w0 w s' er) := by
 obtain ⟨ca,cc,rfl⟩ := hV.c.shape;obtain ⟨ta,tc,rfl⟩ := hV.t.slice;obtain ⟨ga,gc,rfl⟩ := hV.g.slice;have hkb : Below w.heap.size w ((w.alloc (.cells (scS s ca cc ta tc ga gc) 32)).alloc (.cells zA 32)) := (((qr _ _).alloc (by simp) _).alloc (by simp) _)
 have hx0 : (w.alloc (.cells (scS s ca cc ta tc ga gc) 32)).heap[w.heap.size]? = some (.cells (scS s ca cc ta tc ga gc) 32 (0,0)) := by
  have h := qf w (.cells (scS s ca cc ta tc ga gc) 32);have e : w.heap.size = w.heap.size := by simp
  rw [e] at h;exact h
 have hx0 := (Below.heap_alloc (w.alloc (.cells (scS s ca cc ta tc ga gc) 32)) (.cells zA 32) _ (Qc hx0)).trans hx0;have hx1 : ((w.alloc (.cells (scS s ca cc ta tc ga gc) 32)).alloc (.cells zA 32)).heap[w.heap.size + 1]? = some (.cells zA 32 (0,0)) := by
  have h := qf (w.alloc (.cells (scS s ca cc ta tc ga gc) 32)) (.cells zA 32);have e : (w.alloc (.cells (scS s ca cc ta tc ga gc) 32)).heap.size = w.heap.size + 1 := by simp
  rw [e] at h;exact h
 have HX0 : Hid _ := hx0;have HXR : Hid _ := hx1;have HKB : Hid _ := hkb;have HC := hC _ 0 hkb;have hsz : w.heap.size ≤ ((w.alloc (.cells (scS s ca cc ta tc ga gc) 32)).alloc (.cells zA 32)).heap.size := hkb.size;clear hkb hV hC hx0 hx1;go_enter Tryz.func90,Tryz.ntmps90;go_upto_region 1 with fail
 generalize ((w.alloc (.cells (scS s ca cc ta tc ga gc) 32)).alloc (.cells zA 32)) = X at *;go_wp2_with (refine wpList_load_row rfl 32 (.tmp 1) rfl w.heap.size rfl _ _ _ _ HX0.out Tryz.underlying32 rfl (by kernel_rfl) ?_)
 refine HC.mono ?_;rintro e V ⟨cv',tv',gv',rfl,hO,c2⟩;obtain ⟨a1,n1,c1,a2,n2,c2',a3,n3,c3,rfl,rfl,rfl⟩ := hO.shapes;have HO : Hid (Qo V 0 _ s' _ _ _) := hO;have HR : Hid (V.heap[w.heap.size + 1]? = _) := Grd.carry HXR.out c2;have HB : Hid (Below w.heap.size w V) := HKB.out.trans (c2.mono HKB.out.size);clear hO c2 HC;go_wp2_with (refine wpList_store_row rfl 32 (.tmp 2) (.tmp 6) rfl (w.heap.size + 1) (scT s' a1 n1 c1 a2 n2 c2' a3 n3 c3) rfl rfl _ _ HR.out (by kernel_rfl) rfl (Qm _ _ _ _ _ _ _ _ _ _) ?_)
 (try simp only [Exit.inBlock,Exit.then])
 refine bodyPost_ret (v := .tuple #[.agg (scT s' a1 n1 c1 a2 n2 c2' a3 n3 c3),.int .i64 er]) ?_ rfl ⟨_,_,_,rfl,?_,below_setRow HB.out (by omega) _⟩
 ·exact Grd.Qd rfl _ _ (w.heap.size + 1) _ _ _ _ rfl (setRow_heap _ _ _ _ _ _ HR.out) Tryz.underlying32 rfl (by kernel_rfl) _ rfl
 ·exact (Qo.off HO.out HR.out Ql (by omega) fun k hk => setRow_other _ _ _ _ hk).mono hsz
def Zy {α : Type} (f : α → α) : Nat → α → α
 | 0,x => x
 | k + 1,x => f (Zy f k x)
def rUp (n top bot : Nat) (keep : Bool) (x : Scr × List (List C)) : Scr × List (List C) := (if top = 0 ∧ keep = true then { x.1 with gone := Ye x.1.gone (x.2.getD 0 []) } else x.1,Zq x.2 n x.1.sb top bot)
def rDn (n top bot : Nat) (x : Scr × List (List C)) : Scr × List (List C) := (x.1,Zq x.2 n x.1.sb bot top)
structure Y4 (n bot hh : Nat) (bk : Int) (x : Scr × List (List C)) : Prop where
 w : x.1.w = n
 b : x.1.bot = bot
 k : x.1.sb = bk
 r : x.2.length = hh
 g : x.1.gone.length ≤ 50
theorem Y4.up {n bot hh : Nat} {bk : Int} {x : Scr × List (List C)} (h : Y4 n bot hh bk x) (top : Nat) (keep : Bool) (ht : top < hh) (hb : bot < hh) : Y4 n bot hh bk (rUp n top bot keep x) := by
 have hr : (Zq x.2 n x.1.sb top bot).length = hh := by rw [Xm _ _ _ _ _ (by rw [h.r];exact ht) (by rw [h.r];exact hb),h.r]
 unfold rUp;split
 ·exact ⟨h.w,h.b,h.k,hr,Uv _ _ h.g⟩
 ·exact ⟨h.w,h.b,h.k,hr,h.g⟩
theorem Y4.dn {n bot hh : Nat} {bk : Int} {x : Scr × List (List C)} (h : Y4 n bot hh bk x) (top : Nat) (ht : top < hh) (hb : bot < hh) : Y4 n bot hh bk (rDn n top bot x) :=
 ⟨h.w,h.b,h.k,by show (Zq x.2 n x.1.sb bot top).length = hh;rw [Xm _ _ _ _ _ (by rw [h.r];exact hb) (by rw [h.r];exact ht),h.r],h.g⟩
end Put
namespace Put
open Grd (C SliceAt Qb Qf z0 Q0 flat Qe)
theorem qi0 (W : World) (M N p n : Nat) (s : Scr) (rows : List (List C)) (hS : ShAt 110 W M N p s rows) (top bot : Nat) (ht : s.top = top) (hb : s.bot = bot) (hy : s.y = s.bot) (hw : s.w = n) (hn1 : 1 ≤ n) (hn2 : n ≤ 120) (hg : top < rows.length) (hf : bot < rows.length) (hrl : rows.length ≤ 60) (hgl : s.gone.length ≤ 50) :
  Calls qP 65 #[.pointer (some ⟨p,0,none⟩)] W (Ran W M N p (upS { s with late := false } rows top) (Zq rows n s.sb top bot)) := by
 obtain ⟨c0,c1,c3,c4,c5,c9,c10,c11,c19,f⟩ := hS.words;have f5 := f 5;obtain ⟨hS1,hB1,hF1⟩ := hS.put 5 (.bool false) (s' := { s with late := false }) (fun _ _ _ _ => rfl) rfl rfl
 have HS1 : Hid (ShAt 110 (W.setCell ⟨p,5,none⟩ (.bool false)) M N p { s with late := false } rows) := hS1
 have HB1 : Hid (Below N W (W.setCell ⟨p,5,none⟩ (.bool false))) := hB1;have HF1 : Hid (Q3 W (W.setCell ⟨p,5,none⟩ (.bool false))) := hF1;have HU : Hid (∀ V,ShAt 110 V M N p { s with late := false } rows → Calls qP 112 #[.pointer (some ⟨p,0,none⟩),.int .i64 (top : Int)] V (Ran V M N p (upS { s with late := false } rows top) (Zq rows n s.sb top bot))) := fun V h => qsf V M N p n _ rows h top bot hb hw hn1 hn2 hg hf hrl hgl
 have HT : Hid (s.top = top) := ht;have hq : (s.y == s.bot) = true := by rw [beq_iff_eq];exact hy
 clear hS1 hB1 hF1 hS hy hb ht c0 c1 c3 c4 c9 c10 c11 c19 f;generalize upS { s with late := false } rows top = s' at *
 generalize Zq rows n s.sb top bot = rows' at *;go_enter Tryz.func65,Tryz.ntmps65;go_upto_region 1 with fail
 obtain ⟨-,-,-,d4,-,d9,d10,-,-,df⟩ := HS1.out.words;clear c5 f5 df;generalize (W.setCell ⟨p,5,none⟩ (.bool false)) = X at *;go_region;have HSd : Hid (ShAt 110 X.drew M N p { s with late := false } rows) := HS1.out.drew
 have HB2 : Hid (Below N W X.drew) := HB1.out.drew;have HF2 : Hid (Q3 W X.drew) := HF1.out.trans (Q3.of_below ((qr _ _).drew));clear d4 d9 d10 HS1 HB1 HF1;generalize X.drew = Y at *;obtain ⟨-,-,-,-,-,d9,-,-,-,df⟩ := HSd.out.words;replace d9 : Y.cell? ⟨p,9,none⟩ = some (.int .i64 s.top) := d9;rw [HT.out] at d9;have HU2 := HU.out Y HSd.out;clear df HU HSd;go_wp2_with fail;refine HU2.mono ?_;rintro e V ⟨rfl,hS2,hB3,hF3⟩;go_wp2_with fail;go_end0;exact ⟨rfl,hS2,HB2.out.trans hB3,HF2.out.trans hF3⟩
def Ub (s : Scr) (rows : List (List C)) (n top bot : Nat) : List (List C) := if s.y = s.bot then Zq rows n s.sb top bot else rows
def qah (s : Scr) : Scr := if s.y = s.top then { s with late := false } else if 0 < s.y then { s with late := false,y := s.y - 1 } else { s with late := false }
theorem qu3 (M n : Nat) (w : World) (s : Scr) (rows : List (List C)) (top bot : Nat) (ht : s.top = top) (hb : s.bot = bot) (hy0 : 0 ≤ s.y) (hy1 : s.y ≤ 60) (hw : s.w = n) (hn1 : 1 ≤ n) (hn2 : n ≤ 120) (hg : top < rows.length) (hf : bot < rows.length) (hrl : rows.length ≤ 60) :
  Does 137 #[] M w s (qah s) rows (if s.y = s.top then Zq rows n s.sb bot top else rows) := by
 intro W p hbw hS
 show Calls _ _ #[.pointer (some ⟨p,0,none⟩)] _ _
 obtain ⟨c0,c1,c3,c4,c5,c9,c10,c11,c19,f⟩ := hS.words;have f5 := f 5;obtain ⟨hS1,hB1,hF1⟩ := hS.put 5 (.bool false) (s' := { s with late := false }) (fun _ _ _ _ => rfl) rfl rfl
 have HS1 : Hid (ShAt 110 (W.setCell ⟨p,5,none⟩ (.bool false)) M w.heap.size p { s with late := false } rows) := hS1
 have HB1 : Hid (Below w.heap.size W (W.setCell ⟨p,5,none⟩ (.bool false))) := hB1;have HDN : Hid (∀ V,ShAt 110 V M w.heap.size p { s with late := false } rows → Calls qP 138 #[.pointer (some ⟨p,0,none⟩),.int .i64 (top : Int)] V (Ran V M w.heap.size p { s with late := false } (Zq rows n s.sb bot top))) := fun V h => qim V M w.heap.size p n _ rows h top bot hb hw hn1 hn2 hg hf hrl
 have HT : Hid (s.top = top) := ht;have HE : Hid (qah s = if s.y = s.top then { s with late := false } else if 0 < s.y then { s with late := false,y := s.y - 1 } else { s with late := false }) := rfl
 clear hS1 hB1 hF1 hS hb ht c0 c1 c3 c4 c9 c10 c11 c19 f;generalize qah s = s' at *;generalize Zq rows n s.sb bot top = rows' at *
 by_cases hq0 : s.y = s.top
 ·have hq : (s.y == s.top) = true := by rw [beq_iff_eq]; exact hq0
  have HE2 : Hid (s' = { s with late := false } ∧ (if s.y = s.top then rows' else rows) = rows') := ⟨by rw [HE.out,if_pos hq0],by rw [if_pos hq0]⟩
  generalize (if s.y = s.top then rows' else rows) = rr at *
  clear hq0;go_enter Tryz.func137,Tryz.ntmps137;go_upto_region 1 with fail
  obtain ⟨-,-,-,d4,-,d9,-,-,-,df⟩ := HS1.out.words;clear c5 f5 df;generalize (W.setCell ⟨p,5,none⟩ (.bool false)) = X at *;go_region;have HSd : Hid (ShAt 110 X.drew M w.heap.size p { s with late := false } rows) := HS1.out.drew
  have HB2 : Hid (Below w.heap.size W X.drew) := HB1.out.drew;clear d4 d9 HS1 HB1;generalize X.drew = Y at *;obtain ⟨-,-,-,-,-,d9,-,-,-,df⟩ := HSd.out.words;replace d9 : Y.cell? ⟨p,9,none⟩ = some (.int .i64 s.top) := d9;rw [HT.out] at d9;have HU2 := HDN.out Y HSd.out;clear df HDN HSd;go_wp2_with fail;refine HU2.mono ?_;rintro e V ⟨rfl,hS2,hB3,hF3⟩;go_wp2_with fail;go_end0;rw [HE2.out.1,HE2.out.2];exact ⟨rfl,hS2,HB2.out.trans hB3⟩
 ·have hq : (s.y == s.top) = false := by rw [beq_eq_false_iff_ne]; exact hq0
  have HR : Hid ((if s.y = s.top then rows' else rows) = rows) := by rw [Hid,if_neg hq0]
  generalize (if s.y = s.top then rows' else rows) = rr at *
  have HE1 : Hid (s' = if 0 < s.y then { s with late := false,y := s.y - 1 } else { s with late := false }) := by rw [Hid,HE.out,if_neg hq0]
  clear hq0 HE HDN;go_enter Tryz.func137,Tryz.ntmps137;go_upto_region 1 with fail
  obtain ⟨-,-,-,d4,-,d9,-,-,-,df⟩ := HS1.out.words;clear c5 f5 df;generalize (W.setCell ⟨p,5,none⟩ (.bool false)) = X at *;go_region;have HSd : Hid (ShAt 110 X.drew M w.heap.size p { s with late := false } rows) := HS1.out.drew
  have HB2 : Hid (Below w.heap.size W X.drew) := HB1.out.drew;clear d4 d9 HS1 HB1;generalize X.drew = Y at *;obtain ⟨-,-,-,d4,-,-,-,-,-,df⟩ := HSd.out.words;replace d4 : Y.cell? ⟨p,4,none⟩ = some (.int .i64 s.y) := d4;have g4 := df 4
  by_cases hlt : 0 < s.y
  ·have HE2 : Hid (s' = { s with late := false, y := s.y - 1 }) := by rw [Hid, HE1.out, if_pos hlt]
   have hw2 : IntKind.i64.wrap (s.y - 1) = s.y - 1 := Zl _ (by omega) (by omega)
   obtain ⟨hS4,hB4,hF4⟩ := HSd.out.put 4 (.int .i64 (s.y - 1)) (s' := { s with late := false,y := s.y - 1 }) (fun _ _ _ _ => rfl) rfl rfl
   have HR4 : Hid (ShAt 110 (Y.setCell ⟨p,4,none⟩ (.int .i64 (s.y - 1))) M w.heap.size p { s with late := false,y := s.y - 1 } rows ∧ Below w.heap.size W (Y.setCell ⟨p,4,none⟩ (.int .i64 (s.y - 1)))) := ⟨hS4,HB2.out.trans hB4⟩
   clear hS4 hB4 hF4 df HSd;go_wp2_with fail;go_end0;rw [HE2.out,HR.out];exact ⟨rfl,HR4.out⟩
  ·have HE2 : Hid (s' = { s with late := false }) := by rw [Hid, HE1.out, if_neg hlt]
   clear df;go_wp2_with fail;go_end0;rw [HE2.out,HR.out];exact ⟨rfl,HSd.out,HB2.out⟩
theorem qpj : Plain 65 := by
 intro args W
 kernel_rfl
theorem qqc : Plain 137 := by
 intro args W
 kernel_rfl
theorem qvt {s : Scr} {n hh : Nat} (hR : Qg s n hh) (s1 : Scr) (hg : s1.gone = s.gone) (top : Nat) : (upS s1 (Qe n s.cs hh) top).gone.length ≤ 50 ∧ ∀ r,r ∈ (upS s1 (Qe n s.cs hh) top).gone → r.length ≤ 120 := by
 unfold upS;split
 ·rw [hg]
  exact ⟨Uv _ _ hR.gl,qpd hR _ (Gn hR 0 (by rw [Grd.Qt];have := hR.h1;omega))⟩
 ·rw [hg]
  refine ⟨hR.gl,fun r hr => ?_⟩
  have := (Vk (hR.gr r hr)).2.1;omega
def qcq (s : Scr) (rows : List (List C)) (top : Nat) : Scr := if s.y = s.bot then upS { s with late := false } rows top else Uc s
theorem qvj (M n : Nat) (w : World) (s : Scr) (rows : List (List C)) (top bot : Nat) (ht : s.top = top) (hb : s.bot = bot) (hy0 : 0 ≤ s.y) (hy1 : s.y ≤ 60) (hh1 : 1 ≤ s.h) (hh2 : s.h ≤ 60) (hw : s.w = n) (hn1 : 1 ≤ n) (hn2 : n ≤ 120) (hg : top < rows.length) (hf : bot < rows.length) (hrl : rows.length ≤ 60) (hgl : s.gone.length ≤ 50) :
  Does 65 #[] M w s (qcq s rows top) rows (Ub s rows n top bot) := by
 intro W p hbw hS
 show Calls _ _ #[.pointer (some ⟨p,0,none⟩)] _ _
 unfold qcq Ub
 by_cases hq : s.y = s.bot
 ·rw [if_pos hq, if_pos hq]
  refine (qi0 W M _ p n s rows hS top bot ht hb hq hw hn1 hn2 hg hf hrl hgl).mono ?_;rintro e V ⟨rfl,h1,h2,-⟩;exact ⟨rfl,h1,h2⟩
 ·rw [if_neg hq, if_neg hq]
  refine (qb0 W M _ p s rows hS hy0 hy1 hh1 hh2 hq).mono ?_;rintro e V ⟨rfl,h1,h2,-⟩;exact ⟨rfl,h1,h2⟩
theorem qgp (s : Scr) (rows : List (List C)) (n top bot : Nat) (hg : top < rows.length) (hf : bot < rows.length) : (Ub s rows n top bot).length = rows.length := by
 unfold Ub;split
 ·exact Xm _ _ _ _ _ hg hf
 ·rfl
theorem qq9 (s : Scr) (rows : List (List C)) (n top bot : Nat) (hg : top < rows.length) (hf : bot < rows.length) (hn : ∀ i,i < rows.length → (rows.getD i []).length = n) (i : Nat) (hi : i < rows.length) : ((Ub s rows n top bot).getD i []).length = n := by
 unfold Ub;split
 ·exact qbc _ _ _ _ _ hg hf hn i hi
 ·exact hn i hi
theorem qrq {s : Scr} {n hh : Nat} (hR : Qg s n hh) (top : Nat) : (qcq s (Qe n s.cs hh) top).gone.length ≤ 50 ∧ ∀ r,r ∈ (qcq s (Qe n s.cs hh) top).gone → r.length ≤ 120 := by
 unfold qcq;split
 ·exact qvt hR { s with late := false } rfl top
 ·have e : (Uc s).gone = s.gone := by unfold Uc; split <;> rfl
  rw [e];refine ⟨hR.gl,fun r hr => ?_⟩
  have := (Vk (hR.gr r hr)).2.1;omega
theorem qy8 {w0 w : World} {s : Scr} {cv tv gv : Value} {n hh : Nat} (h : Met w0 w s cv tv gv) (hR : Qg s n hh) (top bot : Nat) (ht : s.top = top) (hb : s.bot = bot) : Calls qP 90 #[.agg (scrA s cv tv gv)] w (Made w0 w { qcq s (Qe n s.cs hh) top with cs := (Ub s (Qe n s.cs hh) n top bot).flatten } 0) := by
 have e1 := hR.w;have e2 := hR.h;have n1 := hR.n1;have n2 := hR.n2;have h1 := hR.h1;have h2 := hR.h2;have y0 := hR.y0;have y1 := hR.y1;have t1 := hR.t1;have t2 := hR.t2;have hl := Grd.Qt n s.cs hh;have hgo := qrq hR top;refine qpt s _ cv tv gv 0 w0 w h.v h.b.size fun _ _ hW => ?_
 refine K7 (h.next hW) hR _ qpj #[] (Ub s (Qe n s.cs hh) n top bot) _ (fun w1 _ => qvj _ n w1 s _ top bot ht hb y0 (by omega) (by omega) (by omega) e1 n1 n2 (by omega) (by omega) (by omega) hR.gl) (F8 hR _ _ (by rw [qgp _ _ _ _ _ (by omega) (by omega),hl]) (fun i hi => ?_) (by have := hgo.1;omega) (qke hgo.2)) rfl
 rw [qgp _ _ _ _ _ (by omega) (by omega)] at hi
 exact qq9 _ _ _ _ _ (by omega) (by omega) (Gn hR) i hi
def qb8 (s : Scr) (rows : List (List C)) (n top bot : Nat) : List (List C) := if s.y = s.top then Zq rows n s.sb bot top else rows
theorem qi6 (s : Scr) (rows : List (List C)) (n top bot : Nat) (hg : top < rows.length) (hf : bot < rows.length) : (qb8 s rows n top bot).length = rows.length := by
 unfold qb8;split
 ·exact Xm _ _ _ _ _ hf hg
 ·rfl
theorem qtt (s : Scr) (rows : List (List C)) (n top bot : Nat) (hg : top < rows.length) (hf : bot < rows.length) (hn : ∀ i,i < rows.length → (rows.getD i []).length = n) (i : Nat) (hi : i < rows.length) : ((qb8 s rows n top bot).getD i []).length = n := by
 unfold qb8;split
 ·exact qbc _ _ _ _ _ hf hg hn i hi
 ·exact hn i hi
theorem qrp (s : Scr) : (qah s).w = s.w ∧ (qah s).h = s.h ∧ (qah s).tabs = s.tabs ∧ (qah s).gone = s.gone := by
 unfold qah;split
 ·exact ⟨rfl,rfl,rfl,rfl⟩
 ·split <;> exact ⟨rfl,rfl,rfl,rfl⟩
theorem qvq {w0 w : World} {s : Scr} {cv tv gv : Value} {n hh : Nat} (h : Met w0 w s cv tv gv) (hR : Qg s n hh) (top bot : Nat) (ht : s.top = top) (hb : s.bot = bot) : Calls qP 95 #[.agg (scrA s cv tv gv)] w (Made w0 w { qah s with cs := (qb8 s (Qe n s.cs hh) n top bot).flatten } 0) := by
 have e1 := hR.w;have n1 := hR.n1;have n2 := hR.n2;have h1 := hR.h1;have h2 := hR.h2;have y0 := hR.y0;have y1 := hR.y1;have t1 := hR.t1;have t2 := hR.t2;have hl := Grd.Qt n s.cs hh;have hs := qrp s;refine qop s _ cv tv gv 0 w0 w h.v h.b.size fun _ _ hW => ?_
 refine K7 (h.next hW) hR _ qqc #[] (qb8 s (Qe n s.cs hh) n top bot) _ (fun w1 _ => qu3 _ n w1 s _ top bot ht hb y0 (by omega) e1 n1 n2 (by omega) (by omega) (by omega)) (F8 hR _ _ (by rw [qi6 _ _ _ _ _ (by omega) (by omega),hl]) (fun i hi => ?_) (by rw [hs.2.2.2];have := hR.gl;omega) (by rw [hs.2.2.2];exact qke (qfy hR))) rfl
 rw [qi6 _ _ _ _ _ (by omega) (by omega)] at hi
 exact qtt _ _ _ _ _ (by omega) (by omega) (Gn hR) i hi
theorem qc0 (n : Int) (w : World) : Calls qP 225 #[.int .i64 n] w fun e w' => e = .returned (.int .i64 (cnt n)) ∧ w = w' := by
 have h1 := Grd.max2 n 1;have h2 := Grd.min2 (max n 1) 9999;go_enter Tryz.func225,Tryz.ntmps225;go_wp2_with fail;go_ret;exact ⟨rfl,rfl⟩
def qdi (F : FuncId) (M N p n top bot hh : Nat) (bk : Int) (f : Scr × List (List C) → Scr × List (List C)) : Prop :=
 ∀ V x,Y4 n bot hh bk x → ShAt 110 V M N p x.1 x.2 → Calls qP F #[.pointer (some ⟨p,0,none⟩),.int .i64 (top : Int)] V fun e V' => e = .returned (.tuple #[]) ∧ ShAt 110 V' M N p (f x).1 (f x).2 ∧ Below N V V'
theorem qed {n bot hh : Nat} {bk : Int} {f : Scr × List (List C) → Scr × List (List C)} (hf : ∀ x, Y4 n bot hh bk x → Y4 n bot hh bk (f x)) (x : Scr × List (List C)) (h : Y4 n bot hh bk x) : ∀ j, Y4 n bot hh bk (Zy f j x)
 | 0 => h
 | j + 1 => hf _ (qed hf x h j)
theorem Fu (F : FuncId) (hpl : Plain F) (f : Scr × List (List C) → Scr × List (List C)) (W : World) (M N p n top bot hh K : Nat) (bk k : Int) (s : Scr) (rows : List (List C)) (hS : ShAt 110 W M N p s rows) (hR : Y4 n bot hh bk (s, rows)) (hf : ∀ x, Y4 n bot hh bk x → Y4 n bot hh bk (f x)) (hF : qdi F M N p n top bot hh bk f) (htb : top ≤ bot) (hbh : bot < hh) (hh60 : hh ≤ 60) (hK : min (cnt k) ((bot : Int) - top + 1) = (K : Int)) :
  Calls qP 197 #[.pointer (some ⟨p,0,none⟩),.int .i64 (top : Int),.int .i64 k,.func (.func F) #[] #[]] W fun e W' => e = .returned (.tuple #[]) ∧ ShAt 110 W' M N p (Zy f K (s,rows)).1 (Zy f K (s,rows)).2 ∧ Below N W W' := by
 obtain ⟨c0,c1,c3,c4,c5,c9,c10,c11,c19,fz⟩ := hS.words;have hb0 : s.bot = bot := hR.b;rw [hb0] at c10;have HCT : Hid (∀ V,Calls qP 225 #[.int .i64 k] V fun e w' => e = .returned (.int .i64 (cnt k)) ∧ V = w') := fun V => qc0 k V
 have hmn := Grd.min2 (cnt k) ((bot : Int) - top + 1);rw [hK] at hmn;have hc := Xw k;have hw1 : IntKind.i64.wrap ((bot : Int) - top) = (bot : Int) - top := Zl _ (by omega) (by omega)
 have hw2 : IntKind.i64.wrap ((bot : Int) - top + 1) = (bot : Int) - top + 1 := Zl _ (by omega) (by omega)
 have hKl : K ≤ 60 := by omega
 have HS : Hid (ShAt 110 W.drew M N p s rows) := hS.drew;have HBd : Hid (Below N W W.drew) := (qr _ _).drew;have HRR : Hid (∀ j,Y4 n bot hh bk (Zy f j (s,rows))) := qed hf (s,rows) hR;have HF : Hid (qdi F M N p n top bot hh bk f) := hF;unfold Plain at hpl;have e0 : W.drew.cell? ⟨p,10,none⟩ = some (.int .i64 (bot : Int)) := c10;clear hS hR hf hF hb0 hK c0 c1 c3 c4 c5 c9 c11 c19 fz;generalize cnt k = ck at *;go_enter Tryz.func197,Tryz.ntmps197;go_upto_region 0 with fail
 go_region_held3 (fun w' => w'.cell? ⟨p, 10, none⟩ = some (.int .i64 (bot : Int)))
  (first | exact e0)
  (first | (go_at_call 225;refine (HCT.out _).mono ?_;rintro e V ⟨rfl,hv⟩;subst hv))
 clear c10 e0 hmn HCT hw1 hw2;generalize W.drew = X at *;go_wp2_with fail;go_loopg [19] K (fun q v wr => ∃ j : Nat,v = .int .i64 (j : Int) ∧ j ≤ K ∧ K - j ≤ q ∧ ShAt 110 wr M N p (Zy f j (s,rows)).1 (Zy f j (s,rows)).2 ∧ Below N W wr)
 case atStart => exact ⟨0,rfl,by omega,by omega,HS.out,HBd.out⟩
 case round =>
  obtain ⟨j,rfl,hjK,hq,hSj,hBj⟩ := hrel
  by_cases hlt : j < K
  ·have lt1 : (j : Int) < (K : Int) := by omega
   have HST := HF.out wr _ (HRR.out j) hSj;have HB : Hid (Below N W wr) := hBj;have HN : Hid (Zy f (j + 1) (s,rows) = f (Zy f j (s,rows))) := rfl;generalize Zy f j (s,rows) = x at HST HN;clear hSj hBj HS HBd;go_wp2_with fail;refine HST.mono ?_;rintro e V ⟨rfl,hS2,hB2⟩;go_wp2_with fail;go_roundg (K - (j + 1))
   case measure => omega
   case rel => exact ⟨j + 1,by first | rfl | simp,by omega,by omega,by rw [HN.out];exact hS2,HB.out.trans hB2⟩
  ·have lt1 : ¬ (j : Int) < (K : Int) := by omega
   have ej : j = K := by omega
   subst ej;go_wp2_with fail;go_end0;exact ⟨rfl,hSj,hBj⟩
theorem qun : Plain 112 := by
 intro args W
 kernel_rfl
theorem qen : Plain 138 := by
 intro args W
 kernel_rfl
theorem qpp : Plain 173 := by
 intro args W
 kernel_rfl
theorem qze (M N p n top bot hh : Nat) (bk : Int) (hn1 : 1 ≤ n) (hn2 : n ≤ 120) (htb : top ≤ bot) (hbh : bot < hh) (hh60 : hh ≤ 60) : qdi 112 M N p n top bot hh bk (rUp n top bot true) := by
 intro V x hR hS;refine (qsf V M N p n x.1 x.2 hS top bot hR.b hR.w hn1 hn2 (by have := hR.r;omega) (by have := hR.r;omega) (by have := hR.r;omega) hR.g).mono ?_
 rintro e V' ⟨rfl,h1,h2,-⟩;refine ⟨rfl,?_,h2⟩;have e : rUp n top bot true x = (upS x.1 x.2 top,Zq x.2 n x.1.sb top bot) := by
  unfold rUp upS;simp
 rw [e];exact h1
theorem qiu (M N p n top bot hh : Nat) (bk : Int) (hn1 : 1 ≤ n) (hn2 : n ≤ 120) (htb : top ≤ bot) (hbh : bot < hh) (hh60 : hh ≤ 60) : qdi 138 M N p n top bot hh bk (rDn n top bot) := by
 intro V x hR hS;refine (qim V M N p n x.1 x.2 hS top bot hR.b hR.w hn1 hn2 (by have := hR.r;omega) (by have := hR.r;omega) (by have := hR.r;omega)).mono ?_
 rintro e V' ⟨rfl,h1,h2,-⟩;exact ⟨rfl,h1,h2⟩
theorem qta (M N p n top bot hh : Nat) (bk : Int) (hn1 : 1 ≤ n) (hn2 : n ≤ 120) (htb : top ≤ bot) (hbh : bot < hh) (hh60 : hh ≤ 60) : qdi 173 M N p n top bot hh bk (rUp n top bot false) := by
 intro V x hR hS;refine (qg4 V M N p n x.1 x.2 hS top bot hR.b hR.w hn1 hn2 (by have := hR.r;omega) (by have := hR.r;omega) (by have := hR.r;omega)).mono ?_
 rintro e V' ⟨rfl,h1,h2,-⟩;refine ⟨rfl,?_,h2⟩;have e : rUp n top bot false x = (x.1,Zq x.2 n x.1.sb top bot) := by
  unfold rUp;simp
 rw [e];exact h1
end Put
end Go.Proofs.YtooobiigijphkaaGreatDoor
